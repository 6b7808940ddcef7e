/- A table with a row: the program's walk. -/
import Derived.Test.YtndegickekjkjaaScWi
import Derived.Test.YtndegickekjkjaaTk
namespace Go.Proofs.Ytndegickekjkjaa
open Go.RowKit

set_option maxHeartbeats 8000000 in
set_option maxRecDepth 20000 in
theorem scWith_any (v : Value) (l : List (ByteArray × Int)) (y : (ByteArray × Int)) (w : World) (hr : ScReads w v l) (hlen : l.length ≤ 1048576) :
    Calls Try.prog 30 #[.agg #[v, .int .i64 16, .func (.func 32) #[] #[], .func (.func 33) #[] #[], .func (.func 34) #[] #[]], .agg #[.string y.1, .int .i64 y.2]] w fun e w' => ∃ x, e = .returned (.agg #[x, .int .i64 16, .func (.func 32) #[] #[], .func (.func 33) #[] #[], .func (.func 34) #[] #[]]) ∧ ScOwns w' w.heap.size x (scIns (scWo l y.1) y) ∧ Below w.heap.size w w' := by
  have hrs := fun (k : Nat) (w : World) (a : Addr) => run_store Try.prog w a (.func (.func k) #[] #[]) .plain rfl
  obtain ⟨ao, cap, rfl⟩ := readsR_shape hr
  obtain ⟨W0, hW0⟩ : ∃ W0, ((w.alloc (.cells #[.slice ao l.length cap, .int .i64 16, .func (.func 32) #[] #[], .func (.func 33) #[] #[], .func (.func 34) #[] #[]] 47)).alloc (.cells #[.string y.1, .int .i64 y.2] 36)).alloc (.cells #[.slice none 0 0, .int .i64 0, .nilFunc, .nilFunc, .nilFunc] 47) = W0 := ⟨_, rfl⟩
  have hB0 : Below w.heap.size w W0 := by rw [← hW0]; exact (((Below.refl _ w).alloc (Nat.le_refl _) _).alloc (by simp) _).alloc (by simp; omega) _
  have hz0 : w.heap.size + 3 ≤ W0.heap.size := by rw [← hW0]; simp
  have hbx : Box5 W0 w.heap.size (.slice ao l.length cap) (.int .i64 16) (.func (.func 32) #[] #[]) (.func (.func 33) #[] #[]) (.func (.func 34) #[] #[]) := by
    rw [← hW0]; exact box5_below (box5_below (box5_row (heap_alloc_new w _)) ((Below.refl (w.heap.size + 1) _).alloc (by simp) _) (by omega)) ((Below.refl (w.heap.size + 2) _).alloc (by simp) _) (by omega)
  have hy0 : W0.cell? ⟨w.heap.size + 1, 0, none⟩ = some (.string y.1) := by
    rw [← hW0, cell_of_row _ _ _ _ _ _ (heap_mid w _ _ _)]; rfl
  have hy1 : W0.cell? ⟨w.heap.size + 1, 1, none⟩ = some (.int .i64 y.2) := by
    rw [← hW0, cell_of_row _ _ _ _ _ _ (heap_mid w _ _ _)]; rfl
  have hby : Box5 W0 (w.heap.size + 1 + 1) (.slice none 0 0) (.int .i64 0) .nilFunc .nilFunc .nilFunc := by
    rw [← hW0]; refine box5_row (t := 47) ?_
    have := heap_alloc_new ((w.alloc (.cells #[.slice ao l.length cap, .int .i64 16, .func (.func 32) #[] #[], .func (.func 33) #[] #[], .func (.func 34) #[] #[]] 47)).alloc (.cells #[.string y.1, .int .i64 y.2] 36)) (.cells #[.slice none 0 0, .int .i64 0, .nilFunc, .nilFunc, .nilFunc] 47)
    simpa using this
  have e0 := hbx.c0
  have e1 := hbx.c1
  have e2 := hbx.c2
  have e3 := hbx.c3
  have e4 := hbx.c4
  go_enter Try.func30, Try.ntmps30
  go_wp2_with fail
  clear hW0
  refine wp_region_held_drew (S := (fun w' => w'.cell? ⟨w.heap.size, 3, none⟩ = some (.func (.func 33) #[] #[]) ∧ w'.cell? ⟨w.heap.size + 1, 0, none⟩ = some (.string y.1) ∧ w'.cell? ⟨w.heap.size + 1, 1, none⟩ = some (.int .i64 y.2))) (by kernel_rfl) (by exact ⟨e3, hy0, hy1⟩) (fun hHeld => ?_)
  refine takeH (i := 1) (d := (some 8)) (v := ?_) rfl rfl (by kernel_rfl) (by kernel_rfl) (by kernel_rfl) (fun _ _ _ h => h) (by kernel_rfl) ?_ (by assumption) ?_
  rotate_left
  · (intro w hSw; (try dsimp only at hSw); go_simp; try with_reducible rfl)
  try simp only [Act.put, List.setIfInBounds_toArray, List.set_cons_succ, List.set_cons_zero]
  refine takeH (i := 2) (d := (some 9)) (v := ?_) rfl rfl (by kernel_rfl) (by kernel_rfl) (by kernel_rfl) (fun _ _ _ h => h) (by kernel_rfl) ?_ (by assumption) ?_
  rotate_left
  · (intro w hSw; (try dsimp only at hSw); go_simp; try with_reducible rfl)
  try simp only [Act.put, List.setIfInBounds_toArray, List.set_cons_succ, List.set_cons_zero]
  refine takeH (i := 3) (d := (some 10)) (v := ?_) rfl rfl (by kernel_rfl) (by kernel_rfl) (by kernel_rfl) (fun _ _ _ h => h) (by kernel_rfl) ?_ (by assumption) ?_
  rotate_left
  · (intro w hSw; (try dsimp only at hSw); go_simp; try with_reducible rfl)
  try simp only [Act.put, List.setIfInBounds_toArray, List.set_cons_succ, List.set_cons_zero]
  refine wpAnyH_ready (rs := [0, 4]) (by kernel_rfl) (by simp) ?_
  refine AllReadyH.cons rfl (fun K hK => ?_) (AllReadyH.cons rfl (fun K hK => ?_) AllReadyH.nil)
  · go_simp
    refine hK.out _ _ ?_ (fun hHeld => ?_)
    · exact ⟨e3, hy0, hy1⟩
    clear hK K e0 e1 e2 e4
    (try simp only [Act.put]); (try simp only [List.setIfInBounds_toArray]); (try simp only [List.set_cons_succ]); (try simp only [List.set_cons_zero])
    refine wpAnyH_ready (rs := [4]) (by kernel_rfl) (by simp) ?_
    refine AllReadyH.cons rfl (fun K hK => ?_) AllReadyH.nil
    go_simp
    refine (scName_any y _).mono ?_; rintro e w1 ⟨rfl, hb1⟩
    refine hK.out _ _ ?_ (fun hHeld => ?_)
    · exact ⟨(hb1.cell (p := ⟨w.heap.size, 3, none⟩) (by show w.heap.size < W0.heap.size; omega)).trans e3, (hb1.cell (p := ⟨w.heap.size + 1, 0, none⟩) (by show w.heap.size + 1 < W0.heap.size; omega)).trans hy0, (hb1.cell (p := ⟨w.heap.size + 1, 1, none⟩) (by show w.heap.size + 1 < W0.heap.size; omega)).trans hy1⟩
    clear hK K
    try simp only [Act.put, List.setIfInBounds_toArray, List.set_cons_succ, List.set_cons_zero]
    clear e3
    have hb1 : Below W0.heap.size W0 w1 := (Below.refl W0.heap.size W0).drew.trans hb1
    have hz1 := hb1.size
    have hbx1 := box5_below hbx hb1 (by omega)
    have hby1 := box5_below hby hb1 (by omega)
    have hB1 := hB0.trans (hb1.mono hB0.size)
    have hk0 := hb1.cell (p := ⟨w.heap.size + 1, 0, none⟩) (by show w.heap.size + 1 < _; omega) |>.trans hy0
    have hk1 := hb1.cell (p := ⟨w.heap.size + 1, 1, none⟩) (by show w.heap.size + 1 < _; omega) |>.trans hy1
    refine wpAnyH_ready (rs := [5]) (by kernel_rfl) (by simp) ?_
    refine AllReadyH.cons rfl (fun K hK => ?_) AllReadyH.nil
    go_simp
    refine (scWithout_any _ l y.1 _ (readsR_kept hr hB1) hlen).mono ?_; rintro e w2 ⟨x, rfl, ho2, hb2⟩
    refine hK.out _ _ ?_ (fun hHeld => ?_)
    · exact ⟨(hb2.cell (p := ⟨w.heap.size, 3, none⟩) (by show w.heap.size < _; omega)).trans hbx1.c3, (hb2.cell (p := ⟨w.heap.size + 1, 0, none⟩) (by show w.heap.size + 1 < _; omega)).trans hk0, (hb2.cell (p := ⟨w.heap.size + 1, 1, none⟩) (by show w.heap.size + 1 < _; omega)).trans hk1⟩
    clear hK K
    try simp only [Act.put, List.setIfInBounds_toArray, List.set_cons_succ, List.set_cons_zero]
    refine takeH (i := 6) (d := (some 6)) (v := ?_) rfl rfl (by kernel_rfl) (by kernel_rfl) (by kernel_rfl) (fun _ _ _ h => h) (by kernel_rfl) ?_ (by assumption) ?_
    rotate_left
    · (intro w hSw; (try dsimp only at hSw); go_simp; try with_reducible rfl)
    try simp only [Act.put, List.setIfInBounds_toArray, List.set_cons_succ, List.set_cons_zero]
    refine takeH (i := 7) (d := (some 13)) (v := ?_) rfl rfl (by kernel_rfl) (by kernel_rfl) (by kernel_rfl) (fun _ _ _ h => h) (by kernel_rfl) ?_ (by assumption) ?_
    rotate_left
    · (intro w hSw; (try dsimp only at hSw); go_simp; try with_reducible rfl)
    try simp only [Act.put, List.setIfInBounds_toArray, List.set_cons_succ, List.set_cons_zero]
    refine takeH (i := 8) (d := (some 14)) (v := ?_) rfl rfl (by kernel_rfl) (by kernel_rfl) (by kernel_rfl) (fun _ _ _ h => h) (by kernel_rfl) ?_ (by assumption) ?_
    rotate_left
    · (intro w hSw; (try dsimp only at hSw); go_simp; try with_reducible rfl)
    try simp only [Act.put, List.setIfInBounds_toArray, List.set_cons_succ, List.set_cons_zero]
    have hz2 := hb2.size
    have hbx2 := box5_below hbx1 hb2 (by omega)
    have hby2 := box5_below hby1 hb2 (by omega)
    have hB2 := hB1.trans (hb2.mono hB1.size)
    have hm0 := hb2.cell (p := ⟨w.heap.size + 1, 0, none⟩) (by show w.heap.size + 1 < _; omega) |>.trans hk0
    have hm1 := hb2.cell (p := ⟨w.heap.size + 1, 1, none⟩) (by show w.heap.size + 1 < _; omega) |>.trans hk1
    have ho2 := ownsR_base ho2 (show W0.heap.size ≤ w1.heap.size from hz1)
    obtain ⟨ax, cx, hxv⟩ := readsR_shape (ownsR_reads scC_len ho2)
    subst hxv
    obtain ⟨R, hR⟩ : ∃ R, scWo l y.1 = R := ⟨_, rfl⟩
    have hRl : R.length ≤ 1048576 := by rw [← hR]; exact Nat.le_trans (scWo_len l y.1) hlen
    have HR : Hid (scWo l y.1 = R) := hR
    rw [hR] at ho2 ⊢
    clear hR
    clear hb1 hb2 hbx1 hby1 hB1 hk0 hk1 hHeld
    have c0 := hbx2.c0
    have c1 := hbx2.c1
    have c2 := hbx2.c2
    have c3 := hbx2.c3
    have c4 := hbx2.c4
    have f0 := hbx2.f0
    have f1 := hbx2.f1
    have f2 := hbx2.f2
    have f3 := hbx2.f3
    have f4 := hbx2.f4
    have hbx3 := box5_allSc hbx2 (.slice ax R.length cx) (.int .i64 16) (.func (.func 32) #[] #[]) (.func (.func 33) #[] #[]) (.func (.func 34) #[] #[])
    have hB3 := ((((hB2.setCell (p := ⟨w.heap.size, 0, none⟩) (Nat.le_refl _) (.slice ax R.length cx)).setCell (p := ⟨w.heap.size, 1, none⟩) (Nat.le_refl _) (.int .i64 16)).setCell (p := ⟨w.heap.size, 2, none⟩) (Nat.le_refl _) (.func (.func 32) #[] #[])).setCell (p := ⟨w.heap.size, 3, none⟩) (Nat.le_refl _) (.func (.func 33) #[] #[])).setCell (p := ⟨w.heap.size, 4, none⟩) (Nat.le_refl _) (.func (.func 34) #[] #[])
    have ho3 := own_setCell (own_setCell (own_setCell (own_setCell (own_setCell ho2 ⟨w.heap.size, 0, none⟩ (.slice ax R.length cx) (by show w.heap.size < _; omega)) ⟨w.heap.size, 1, none⟩ (.int .i64 16) (by show w.heap.size < _; omega)) ⟨w.heap.size, 2, none⟩ (.func (.func 32) #[] #[]) (by show w.heap.size < _; omega)) ⟨w.heap.size, 3, none⟩ (.func (.func 33) #[] #[]) (by show w.heap.size < _; omega)) ⟨w.heap.size, 4, none⟩ (.func (.func 34) #[] #[]) (by show w.heap.size < _; omega)
    have hgr : w2.grownBy (((((w2.setCell ⟨w.heap.size, 0, none⟩ (.slice ax R.length cx)).setCell ⟨w.heap.size, 1, none⟩ (.int .i64 16)).setCell ⟨w.heap.size, 2, none⟩ (.func (.func 32) #[] #[])).setCell ⟨w.heap.size, 3, none⟩ (.func (.func 33) #[] #[])).setCell ⟨w.heap.size, 4, none⟩ (.func (.func 34) #[] #[])) (some w.heap.size) :=
      grown_two (grown_two (grown_two (grown_two (grown_setCell w2 ⟨w.heap.size, 0, none⟩ (.slice ax R.length cx)) (grown_setCell _ ⟨w.heap.size, 1, none⟩ _)) (grown_setCell _ ⟨w.heap.size, 2, none⟩ _)) (grown_setCell _ ⟨w.heap.size, 3, none⟩ _)) (grown_setCell _ ⟨w.heap.size, 4, none⟩ _)
    obtain ⟨W3, hW3⟩ : ∃ W3, ((((w2.setCell ⟨w.heap.size, 0, none⟩ (.slice ax R.length cx)).setCell ⟨w.heap.size, 1, none⟩ (.int .i64 16)).setCell ⟨w.heap.size, 2, none⟩ (.func (.func 32) #[] #[])).setCell ⟨w.heap.size, 3, none⟩ (.func (.func 33) #[] #[])).setCell ⟨w.heap.size, 4, none⟩ (.func (.func 34) #[] #[]) = W3 := ⟨_, rfl⟩
    rw [hW3] at hbx3 hB3 ho3 hgr
    have hby3 := box5_kept hby2 hgr (by intro h; have := Option.some.inj h; omega)
    have hp0 : W3.cell? ⟨w.heap.size + 1, 0, none⟩ = some (.string y.1) := (World.cell?_of_block (hgr.block (w.heap.size + 1) (by omega) (by intro h; have := Option.some.inj h; omega))).trans hm0
    have hp1 : W3.cell? ⟨w.heap.size + 1, 1, none⟩ = some (.int .i64 y.2) := (World.cell?_of_block (hgr.block (w.heap.size + 1) (by omega) (by intro h; have := Option.some.inj h; omega))).trans hm1
    have hz3 := hgr.size
    refine wpAnyH_ready (rs := [9]) (by kernel_rfl) (by simp) ?_
    refine AllReadyH.cons rfl (fun K hK => ?_) AllReadyH.nil
    go_simp
    refine hK.out _ _ ?_ (fun hHeld => ?_)
    · exact ⟨hbx3.c3, hp0, hp1⟩
    clear hK K
    (try simp only [Act.put]); (try simp only [List.setIfInBounds_toArray]); (try simp only [List.set_cons_succ]); (try simp only [List.set_cons_zero])
    refine wpAnyH_done (by kernel_rfl) ?_ _
    clear hW3 c0 c1 c2 c3 c4 f0 f1 f2 f3 f4 hbx2 hby2 hB2 ho2 hgr hm0 hm1 hHeld hbx hby hB0 hy0 hy1
    go_wp2_with fail
    go_loopw [5] (fun i wr => ∃ k : Nat, k ≤ R.length ∧ i = .int .i64 (k : Int) ∧ scILow R y k ∧ Below W3.heap.size W3 wr) (fun i _ => R.length - (intOf i).toNat)
    case atStart => exact ⟨0, Nat.zero_le _, rfl, fun j hj => by omega, Below.refl _ _⟩
    case round =>
      obtain ⟨k, hk, rfl, hlow, hB⟩ := hrel
      have hbxr := box5_below hbx3 hB (by omega)
      have q0 := hbxr.c0
      have q2 := hbxr.c2
      have hr0 := hB.cell (p := ⟨w.heap.size + 1, 0, none⟩) (by show w.heap.size + 1 < _; omega) |>.trans hp0
      have hr1 := hB.cell (p := ⟨w.heap.size + 1, 1, none⟩) (by show w.heap.size + 1 < _; omega) |>.trans hp1
      have hzr := hB.size
      by_cases hlt : k < R.length
      · have hd : decide ((k : Int) < (R.length : Int)) = true := by simp; omega
        have hd2 : (k : Int) < (R.length : Int) := by omega
        obtain ⟨g, hg⟩ : ∃ g, ax = some ⟨g, 0, none⟩ := by
          rcases ownsR_form ho3 with ⟨h0, _⟩ | ⟨_, g, c, hv⟩
          · rw [h0] at hlt; simp at hlt
          · simp only [Value.slice.injEq, true_and] at hv; exact ⟨g, hv.1⟩
        subst hg
        have hgl := (World.ownsRow.lt ho3 g rfl).2
        have s0 : W3.cell? ⟨g, k * 2, none⟩ = _ := cellR scC_len ho3 (scAt_some hlt) 0 _ rfl
        have s1 : W3.cell? ⟨g, k * 2 + 1, none⟩ = _ := cellR scC_len ho3 (scAt_some hlt) 1 _ rfl
        have t0 := hB.cell (p := ⟨g, k * 2, none⟩) hgl |>.trans s0
        have t1 := hB.cell (p := ⟨g, k * 2 + 1, none⟩) hgl |>.trans s1
        clear s0 s1
        have hgr : g < wr.heap.size := by omega
        go_wp2_with fail
        refine wp_region_held_drew (S := (fun w' => (w'.cell? ⟨w.heap.size, 0, none⟩ = some (.slice (some ⟨g, 0, none⟩) R.length cx) ∧ w'.cell? ⟨w.heap.size, 2, none⟩ = some (.func (.func 32) #[] #[]) ∧ w'.cell? ⟨w.heap.size + 1, 0, none⟩ = some (.string y.1) ∧ w'.cell? ⟨w.heap.size + 1, 1, none⟩ = some (.int .i64 y.2) ∧ w'.cell? ⟨g, k * 2, none⟩ = some (.string (scAt R k).1) ∧ w'.cell? ⟨g, k * 2 + 1, none⟩ = some (.int .i64 (scAt R k).2)) ∧ Below wr.heap.size wr w')) (by kernel_rfl) (by exact ⟨⟨q0, q2, hr0, hr1, t0, t1⟩, (Below.refl _ wr).drew⟩) (fun hHeld => ?_)
        refine takeH (i := 0) (d := (some 15)) (v := ?_) rfl rfl (by kernel_rfl) (by kernel_rfl) (by kernel_rfl) (fun _ _ _ h => h) (by kernel_rfl) ?_ (by assumption) ?_
        rotate_left
        · (intro w hSw; (try dsimp only at hSw); go_simp; try with_reducible rfl)
        try simp only [Act.put, List.setIfInBounds_toArray, List.set_cons_succ, List.set_cons_zero]
        refine takeH (i := 1) (d := (some 16)) (v := ?_) rfl rfl (by kernel_rfl) (by kernel_rfl) (by kernel_rfl) (fun _ _ _ h => h) (by kernel_rfl) ?_ (by assumption) ?_
        rotate_left
        · (intro w hSw; (try dsimp only at hSw); go_simp; try with_reducible rfl)
        try simp only [Act.put, List.setIfInBounds_toArray, List.set_cons_succ, List.set_cons_zero]
        refine takeH (i := 2) (d := (some 17)) (v := ?_) rfl rfl (by kernel_rfl) (by kernel_rfl) (by kernel_rfl) (fun _ _ _ h => h) (by kernel_rfl) ?_ (by assumption) ?_
        rotate_left
        · (intro w hSw; (try dsimp only at hSw); go_simp; try with_reducible rfl)
        try simp only [Act.put, List.setIfInBounds_toArray, List.set_cons_succ, List.set_cons_zero]
        refine takeH (i := 3) (d := (some 18)) (v := ?_) rfl rfl (by kernel_rfl) (by kernel_rfl) (by kernel_rfl) (fun _ _ _ h => h) (by kernel_rfl) ?_ (by assumption) ?_
        rotate_left
        · (intro w hSw; (try dsimp only at hSw); go_simp; try with_reducible rfl)
        try simp only [Act.put, List.setIfInBounds_toArray, List.set_cons_succ, List.set_cons_zero]
        refine takeH (i := 4) (d := (some 19)) (v := ?_) rfl rfl (by kernel_rfl) (by kernel_rfl) (by kernel_rfl) (fun _ _ _ h => h) (by kernel_rfl) ?_ (by assumption) ?_
        rotate_left
        · (intro w hSw; (try dsimp only at hSw); go_simp; try with_reducible rfl)
        try simp only [Act.put, List.setIfInBounds_toArray, List.set_cons_succ, List.set_cons_zero]
        refine takeH (i := 5) (d := (some 20)) (v := ?_) rfl rfl (by kernel_rfl) (by kernel_rfl) (by kernel_rfl) (fun _ _ _ h => h) (by kernel_rfl) ?_ (by assumption) ?_
        rotate_left
        · (intro w hSw; (try dsimp only at hSw); go_simp; try with_reducible rfl)
        try simp only [Act.put, List.setIfInBounds_toArray, List.set_cons_succ, List.set_cons_zero]
        refine takeH (i := 6) (d := (some 21)) (v := ?_) rfl rfl (by kernel_rfl) (by kernel_rfl) (by kernel_rfl) (fun _ _ _ h => h) (by kernel_rfl) ?_ (by assumption) ?_
        rotate_left
        · (intro w hSw; (try dsimp only at hSw); go_simp; try with_reducible rfl)
        try simp only [Act.put, List.setIfInBounds_toArray, List.set_cons_succ, List.set_cons_zero]
        refine takeH (i := 7) (d := (some 22)) (v := ?_) rfl rfl (by kernel_rfl) (by kernel_rfl) (by kernel_rfl) (fun _ _ _ h => h) (by kernel_rfl) ?_ (by assumption) ?_
        rotate_left
        · (intro w hSw; (try dsimp only at hSw); go_simp; try with_reducible rfl)
        try simp only [Act.put, List.setIfInBounds_toArray, List.set_cons_succ, List.set_cons_zero]
        refine takeH (i := 8) (d := (some 23)) (v := ?_) rfl rfl (by kernel_rfl) (by kernel_rfl) (by kernel_rfl) (fun _ _ _ h => h) (by kernel_rfl) ?_ (by assumption) ?_
        rotate_left
        · (intro w hSw; (try dsimp only at hSw); go_simp; try with_reducible rfl)
        try simp only [Act.put, List.setIfInBounds_toArray, List.set_cons_succ, List.set_cons_zero]
        refine takeH (i := 9) (d := (some 24)) (v := ?_) rfl rfl (by kernel_rfl) (by kernel_rfl) (by kernel_rfl) (fun _ _ _ h => h) (by kernel_rfl) ?_ (by assumption) ?_
        rotate_left
        · (intro w hSw; (try dsimp only at hSw); go_simp; try with_reducible rfl)
        try simp only [Act.put, List.setIfInBounds_toArray, List.set_cons_succ, List.set_cons_zero]
        refine takeH (i := 10) (d := (some 25)) (v := ?_) rfl rfl (by kernel_rfl) (by kernel_rfl) (by kernel_rfl) (fun _ _ _ h => h) (by kernel_rfl) ?_ (by assumption) ?_
        rotate_left
        · (intro w hSw; (try dsimp only at hSw); go_simp; try with_reducible rfl)
        try simp only [Act.put, List.setIfInBounds_toArray, List.set_cons_succ, List.set_cons_zero]
        refine takeH (i := 11) (d := (some 26)) (v := ?_) rfl rfl (by kernel_rfl) (by kernel_rfl) (by kernel_rfl) (fun _ _ _ h => h) (by kernel_rfl) ?_ (by assumption) ?_
        rotate_left
        · (intro w hSw; (try dsimp only at hSw); go_simp; try with_reducible rfl)
        try simp only [Act.put, List.setIfInBounds_toArray, List.set_cons_succ, List.set_cons_zero]
        refine takeH (i := 12) (d := (some 27)) (v := ?_) rfl rfl (by kernel_rfl) (by kernel_rfl) (by kernel_rfl) (fun _ _ _ h => h) (by kernel_rfl) ?_ (by assumption) ?_
        rotate_left
        · (intro w hSw; (try dsimp only at hSw); go_simp; try with_reducible rfl)
        try simp only [Act.put, List.setIfInBounds_toArray, List.set_cons_succ, List.set_cons_zero]
        refine takeH (i := 13) (d := (some 28)) (v := ?_) rfl rfl (by kernel_rfl) (by kernel_rfl) (by kernel_rfl) (fun _ _ _ h => h) (by kernel_rfl) ?_ (by assumption) ?_
        rotate_left
        · (intro w hSw; (try dsimp only at hSw); go_simp; try with_reducible rfl)
        try simp only [Act.put, List.setIfInBounds_toArray, List.set_cons_succ, List.set_cons_zero]
        refine wpAnyH_ready (rs := [14]) (by kernel_rfl) (by simp) ?_
        refine AllReadyH.cons rfl (fun K hK => ?_) AllReadyH.nil
        go_simp
        refine (scAhead_any (scAt R k) y _).mono ?_; rintro e w4 ⟨rfl, hb4⟩
        refine hK.out _ _ ?_ (fun hHeld => ?_)
        · exact ⟨⟨(hb4.cell (p := ⟨w.heap.size, 0, none⟩) (by show w.heap.size < wr.heap.size; omega)).trans q0, (hb4.cell (p := ⟨w.heap.size, 2, none⟩) (by show w.heap.size < wr.heap.size; omega)).trans q2, (hb4.cell (p := ⟨w.heap.size + 1, 0, none⟩) (by show w.heap.size + 1 < wr.heap.size; omega)).trans hr0, (hb4.cell (p := ⟨w.heap.size + 1, 1, none⟩) (by show w.heap.size + 1 < wr.heap.size; omega)).trans hr1, (hb4.cell (p := ⟨g, k * 2, none⟩) hgr).trans t0, (hb4.cell (p := ⟨g, k * 2 + 1, none⟩) hgr).trans t1⟩, (Below.refl _ wr).drew.trans hb4⟩
        clear hK K
        try simp only [Act.put, List.setIfInBounds_toArray, List.set_cons_succ, List.set_cons_zero]
        refine takeH (i := 15) (d := (some 30)) (v := ?_) rfl rfl (by kernel_rfl) (by kernel_rfl) (by kernel_rfl) (fun _ _ _ h => h) (by kernel_rfl) ?_ (by assumption) ?_
        rotate_left
        · (intro w hSw; (try dsimp only at hSw); go_simp; try with_reducible rfl)
        try simp only [Act.put, List.setIfInBounds_toArray, List.set_cons_succ, List.set_cons_zero]
        refine wpAnyH_done (by kernel_rfl) ?_ _
        have HB4 : Below W3.heap.size W3 w4 := hB.trans (hHeld.2.mono hzr)
        clear hHeld hb4 q0 q2 hr0 hr1 t0 t1 hbxr hB
        cases ha : scAheadB (scAt R k) y with
        | true =>
          have HL : Hid (scILow R y (k + 1)) := scILow_step hlow ha
          clear ha hd hd2
          go_wp2_with fail
          go_roundw
          case rel => exact ⟨k + 1, hlt, by go_num, HL.out, HB4⟩
          case measure => simp [intOf]; omega
        | false =>
          have HPOS : Hid (scIPos R y = k) := scIPos_at hlt hlow ha
          clear ha hd hd2
          have ho4 := ownsR_kept ho3 HB4
          have hbx4 := box5_below hbx3 HB4 (by omega)
          have hby4 := box5_below hby3 HB4 (by omega)
          have hz4 := (HB4).size
          have hq0 := (HB4).cell (p := ⟨w.heap.size + 1, 0, none⟩) (by show w.heap.size + 1 < _; omega) |>.trans hp0
          have hq1 := (HB4).cell (p := ⟨w.heap.size + 1, 1, none⟩) (by show w.heap.size + 1 < _; omega) |>.trans hp1
          have hB4 : Below w.heap.size w (w4) := hB3.trans ((HB4).mono hB3.size)
          clear hp0 hp1 ho3 hbx3 hby3 hB3
          have e0 := hbx4.c0
          obtain ⟨W5, hW5⟩ : ∃ W5, (w4).alloc (.cells #[.string y.1, .int .i64 y.2] 36) = W5 := ⟨_, rfl⟩
          have hv5 : W5.heap[(w4).heap.size]? = some (.cells (scC y).toArray 36 (0, 0)) := by rw [← hW5]; exact heap_alloc_new _ _
          have hb5 : Below (w4).heap.size (w4) W5 := by rw [← hW5]; exact (Below.refl _ _).alloc (Nat.le_refl _) _
          have ho5 := ownsR_kept ho4 hb5
          have hbx5 := box5_below hbx4 hb5 (by omega)
          have hby5 := box5_below hby4 hb5 (by omega)
          have hz5 := hb5.size
          have hB5 : Below w.heap.size w W5 := hB4.trans (hb5.mono hB4.size)
          have hne : Value.ownBlock (.slice (some ⟨g, 0, none⟩) R.length cx) ≠ some (w4).heap.size := fun h => by have := (World.ownsRow.lt ho4 _ h).2; omega
          clear hbx4 hby4 hB4 hb5
          go_wp2_with fail
          refine (scInsert_any _ R k y _ W0.heap.size W5 ho5 hv5 hne (by omega) (by omega) hRl).mono ?_
          rintro e w6 ⟨x6, rfl, ho6, hb6⟩
          obtain ⟨a6, c6, hx6⟩ := readsR_shape (ownsR_reads scC_len ho6)
          subst hx6
          have hl6 : (R.take k ++ y :: R.drop k).length = R.length + 1 := ins_len R k y (by omega)
          rw [hl6] at ho6 ⊢
          have hbx6 := box5_below hbx5 hb6 (by omega)
          have hby6 := box5_below hby5 hb6 (by omega)
          have hz6 := hb6.size
          have hB6 : Below w.heap.size w w6 := hB5.trans (hb6.mono (by omega))
          clear hbx5 hby5 hB5 hb6 ho5 hv5 hne ho4 hW5 e0
          have e0 := hbx6.c0
          have e1 := hbx6.f0
          have hbx7 := box5_set0 hbx6 (.slice a6 (R.length + 1) c6)
          have hby7 := box5_kept hby6 (grown_setCell w6 ⟨w.heap.size, 0, none⟩ (.slice a6 (R.length + 1) c6)) (by simp; omega)
          have ho7 := own_setCell ho6 ⟨w.heap.size, 0, none⟩ (.slice a6 (R.length + 1) c6) (by show w.heap.size < _; omega)
          have hB7 : Below w.heap.size w (w6.setCell ⟨w.heap.size, 0, none⟩ (.slice a6 (R.length + 1) c6)) := hB6.setCell (Nat.le_refl _) _
          obtain ⟨W7, hW7⟩ : ∃ W7, w6.setCell ⟨w.heap.size, 0, none⟩ (.slice a6 (R.length + 1) c6) = W7 := ⟨_, rfl⟩
          rw [hW7] at hbx7 hby7 ho7 hB7
          clear hbx6 hby6 ho6 hB6
          have k0 := hbx7.c0
          have k1 := hbx7.c1
          have k2 := hbx7.c2
          have k3 := hbx7.c3
          have k4 := hbx7.c4
          have d0 := hby7.c0
          have d1 := hby7.c1
          have d2 := hby7.c2
          have d3 := hby7.c3
          have d4 := hby7.c4
          have g0 := hby7.f0
          have g1 := hby7.f1
          have g2 := hby7.f2
          have g3 := hby7.f3
          have g4 := hby7.f4
          go_wp2_with fail
          refine bodyPost_ret (sc_resW rfl (box5_set5 hby7 _ _ _ _ _)) rfl ⟨_, rfl, ?_, ?_⟩
          · rw [HR.out]; unfold scIns; rw [HPOS.out]
            have := own_setCell (own_setCell (own_setCell (own_setCell (own_setCell ho7 ⟨w.heap.size + 1 + 1, 0, none⟩ (.slice a6 (R.length + 1) c6) (by show w.heap.size + 1 + 1 < _; omega)) ⟨w.heap.size + 1 + 1, 1, none⟩ (.int .i64 16) (by show w.heap.size + 1 + 1 < _; omega)) ⟨w.heap.size + 1 + 1, 2, none⟩ (.func (.func 32) #[] #[]) (by show w.heap.size + 1 + 1 < _; omega)) ⟨w.heap.size + 1 + 1, 3, none⟩ (.func (.func 33) #[] #[]) (by show w.heap.size + 1 + 1 < _; omega)) ⟨w.heap.size + 1 + 1, 4, none⟩ (.func (.func 34) #[] #[]) (by show w.heap.size + 1 + 1 < _; omega)
            exact ownsR_base this (by omega)
          · exact ((((hB7.setCell (by show _ ≤ w.heap.size + 1 + 1; omega) _).setCell (by show _ ≤ w.heap.size + 1 + 1; omega) _).setCell (by show _ ≤ w.heap.size + 1 + 1; omega) _).setCell (by show _ ≤ w.heap.size + 1 + 1; omega) _).setCell (by show _ ≤ w.heap.size + 1 + 1; omega) _
      · obtain rfl : k = R.length := by omega
        have hd : decide ((R.length : Int) < (R.length : Int)) = false := by simp
        go_wp2_with fail
        refine wp_region_held_drew (S := (fun w' => w'.cell? ⟨w.heap.size, 0, none⟩ = some (.slice ax R.length cx))) (by kernel_rfl) (by exact q0) (fun hHeld => ?_)
        refine takeH (i := 0) (d := (some 15)) (v := ?_) rfl rfl (by kernel_rfl) (by kernel_rfl) (by kernel_rfl) (fun _ _ _ h => h) (by kernel_rfl) ?_ (by assumption) ?_
        rotate_left
        · (intro w hSw; (try dsimp only at hSw); go_simp; try with_reducible rfl)
        try simp only [Act.put, List.setIfInBounds_toArray, List.set_cons_succ, List.set_cons_zero]
        refine takeH (i := 1) (d := (some 16)) (v := ?_) rfl rfl (by kernel_rfl) (by kernel_rfl) (by kernel_rfl) (fun _ _ _ h => h) (by kernel_rfl) ?_ (by assumption) ?_
        rotate_left
        · (intro w hSw; (try dsimp only at hSw); go_simp; try with_reducible rfl)
        try simp only [Act.put, List.setIfInBounds_toArray, List.set_cons_succ, List.set_cons_zero]
        refine takeH (i := 2) (d := (some 17)) (v := ?_) rfl rfl (by kernel_rfl) (by kernel_rfl) (by kernel_rfl) (fun _ _ _ h => h) (by kernel_rfl) ?_ (by assumption) ?_
        rotate_left
        · (intro w hSw; (try dsimp only at hSw); go_simp; try with_reducible rfl)
        try simp only [Act.put, List.setIfInBounds_toArray, List.set_cons_succ, List.set_cons_zero]
        refine takeH (i := 3) (d := (some 18)) (v := ?_) rfl rfl (by kernel_rfl) (by kernel_rfl) (by kernel_rfl) (fun _ _ _ h => h) (by kernel_rfl) ?_ (by assumption) ?_
        rotate_left
        · (intro w hSw; (try dsimp only at hSw); go_simp; try with_reducible rfl)
        try simp only [Act.put, List.setIfInBounds_toArray, List.set_cons_succ, List.set_cons_zero]
        refine takeH (i := 4) (d := (some 19)) (v := ?_) rfl rfl (by kernel_rfl) (by kernel_rfl) (by kernel_rfl) (fun _ _ _ h => h) (by kernel_rfl) ?_ (by assumption) ?_
        rotate_left
        · (intro w hSw; (try dsimp only at hSw); go_simp; try with_reducible rfl)
        try simp only [Act.put, List.setIfInBounds_toArray, List.set_cons_succ, List.set_cons_zero]
        refine takeH (i := 5) (d := (some 20)) (v := ?_) rfl rfl (by kernel_rfl) (by kernel_rfl) (by kernel_rfl) (fun _ _ _ h => h) (by kernel_rfl) ?_ (by assumption) ?_
        rotate_left
        · (intro w hSw; (try dsimp only at hSw); go_simp; try with_reducible rfl)
        try simp only [Act.put, List.setIfInBounds_toArray, List.set_cons_succ, List.set_cons_zero]
        refine skipH (i := 6) (d := (some 21)) rfl rfl (by kernel_rfl) (by kernel_rfl) (by kernel_rfl) (fun _ _ _ h => h) (by kernel_rfl) (by assumption) ?_
        try simp only [Act.put, List.setIfInBounds_toArray, List.set_cons_succ, List.set_cons_zero]
        refine skipH (i := 7) (d := (some 22)) rfl rfl (by kernel_rfl) (by kernel_rfl) (by kernel_rfl) (fun _ _ _ h => h) (by kernel_rfl) (by assumption) ?_
        try simp only [Act.put, List.setIfInBounds_toArray, List.set_cons_succ, List.set_cons_zero]
        refine skipH (i := 8) (d := (some 23)) rfl rfl (by kernel_rfl) (by kernel_rfl) (by kernel_rfl) (fun _ _ _ h => h) (by kernel_rfl) (by assumption) ?_
        try simp only [Act.put, List.setIfInBounds_toArray, List.set_cons_succ, List.set_cons_zero]
        refine skipH (i := 9) (d := (some 24)) rfl rfl (by kernel_rfl) (by kernel_rfl) (by kernel_rfl) (fun _ _ _ h => h) (by kernel_rfl) (by assumption) ?_
        try simp only [Act.put, List.setIfInBounds_toArray, List.set_cons_succ, List.set_cons_zero]
        refine skipH (i := 10) (d := (some 25)) rfl rfl (by kernel_rfl) (by kernel_rfl) (by kernel_rfl) (fun _ _ _ h => h) (by kernel_rfl) (by assumption) ?_
        try simp only [Act.put, List.setIfInBounds_toArray, List.set_cons_succ, List.set_cons_zero]
        refine skipH (i := 11) (d := (some 26)) rfl rfl (by kernel_rfl) (by kernel_rfl) (by kernel_rfl) (fun _ _ _ h => h) (by kernel_rfl) (by assumption) ?_
        try simp only [Act.put, List.setIfInBounds_toArray, List.set_cons_succ, List.set_cons_zero]
        refine skipH (i := 12) (d := (some 27)) rfl rfl (by kernel_rfl) (by kernel_rfl) (by kernel_rfl) (fun _ _ _ h => h) (by kernel_rfl) (by assumption) ?_
        try simp only [Act.put, List.setIfInBounds_toArray, List.set_cons_succ, List.set_cons_zero]
        refine skipH (i := 13) (d := (some 28)) rfl rfl (by kernel_rfl) (by kernel_rfl) (by kernel_rfl) (fun _ _ _ h => h) (by kernel_rfl) (by assumption) ?_
        try simp only [Act.put, List.setIfInBounds_toArray, List.set_cons_succ, List.set_cons_zero]
        refine skipH (i := 14) (d := (some 29)) rfl rfl (by kernel_rfl) (by kernel_rfl) (by kernel_rfl) (fun _ _ _ h => h) (by kernel_rfl) (by assumption) ?_
        try simp only [Act.put, List.setIfInBounds_toArray, List.set_cons_succ, List.set_cons_zero]
        refine takeH (i := 15) (d := (some 30)) (v := ?_) rfl rfl (by kernel_rfl) (by kernel_rfl) (by kernel_rfl) (fun _ _ _ h => h) (by kernel_rfl) ?_ (by assumption) ?_
        rotate_left
        · (intro w hSw; (try dsimp only at hSw); go_simp; try with_reducible rfl)
        try simp only [Act.put, List.setIfInBounds_toArray, List.set_cons_succ, List.set_cons_zero]
        refine wpAnyH_done (by kernel_rfl) ?_ _
        clear hHeld q0 q2 hr0 hr1 hbxr
        have HPOS : Hid (scIPos R y = R.length) := scIPos_end hlow
        have HB4 : Below W3.heap.size W3 wr.drew := hB.drew
        clear hB
        generalize wr.drew = w4 at *
        clear hd
        have ho4 := ownsR_kept ho3 HB4
        have hbx4 := box5_below hbx3 HB4 (by omega)
        have hby4 := box5_below hby3 HB4 (by omega)
        have hz4 := (HB4).size
        have hq0 := (HB4).cell (p := ⟨w.heap.size + 1, 0, none⟩) (by show w.heap.size + 1 < _; omega) |>.trans hp0
        have hq1 := (HB4).cell (p := ⟨w.heap.size + 1, 1, none⟩) (by show w.heap.size + 1 < _; omega) |>.trans hp1
        have hB4 : Below w.heap.size w (w4) := hB3.trans ((HB4).mono hB3.size)
        clear hp0 hp1 ho3 hbx3 hby3 hB3
        have e0 := hbx4.c0
        obtain ⟨W5, hW5⟩ : ∃ W5, (w4).alloc (.cells #[.string y.1, .int .i64 y.2] 36) = W5 := ⟨_, rfl⟩
        have hv5 : W5.heap[(w4).heap.size]? = some (.cells (scC y).toArray 36 (0, 0)) := by rw [← hW5]; exact heap_alloc_new _ _
        have hb5 : Below (w4).heap.size (w4) W5 := by rw [← hW5]; exact (Below.refl _ _).alloc (Nat.le_refl _) _
        have ho5 := ownsR_kept ho4 hb5
        have hbx5 := box5_below hbx4 hb5 (by omega)
        have hby5 := box5_below hby4 hb5 (by omega)
        have hz5 := hb5.size
        have hB5 : Below w.heap.size w W5 := hB4.trans (hb5.mono hB4.size)
        have hne : Value.ownBlock (.slice ax R.length cx) ≠ some (w4).heap.size := fun h => by have := (World.ownsRow.lt ho4 _ h).2; omega
        clear hbx4 hby4 hB4 hb5
        go_wp2_with fail
        refine (scInsert_any _ R R.length y _ W0.heap.size W5 ho5 hv5 hne (by omega) (by omega) hRl).mono ?_
        rintro e w6 ⟨x6, rfl, ho6, hb6⟩
        obtain ⟨a6, c6, hx6⟩ := readsR_shape (ownsR_reads scC_len ho6)
        subst hx6
        have hl6 : (R.take R.length ++ y :: R.drop R.length).length = R.length + 1 := ins_len R R.length y (by omega)
        rw [hl6] at ho6 ⊢
        have hbx6 := box5_below hbx5 hb6 (by omega)
        have hby6 := box5_below hby5 hb6 (by omega)
        have hz6 := hb6.size
        have hB6 : Below w.heap.size w w6 := hB5.trans (hb6.mono (by omega))
        clear hbx5 hby5 hB5 hb6 ho5 hv5 hne ho4 hW5 e0
        have e0 := hbx6.c0
        have e1 := hbx6.f0
        have hbx7 := box5_set0 hbx6 (.slice a6 (R.length + 1) c6)
        have hby7 := box5_kept hby6 (grown_setCell w6 ⟨w.heap.size, 0, none⟩ (.slice a6 (R.length + 1) c6)) (by simp; omega)
        have ho7 := own_setCell ho6 ⟨w.heap.size, 0, none⟩ (.slice a6 (R.length + 1) c6) (by show w.heap.size < _; omega)
        have hB7 : Below w.heap.size w (w6.setCell ⟨w.heap.size, 0, none⟩ (.slice a6 (R.length + 1) c6)) := hB6.setCell (Nat.le_refl _) _
        obtain ⟨W7, hW7⟩ : ∃ W7, w6.setCell ⟨w.heap.size, 0, none⟩ (.slice a6 (R.length + 1) c6) = W7 := ⟨_, rfl⟩
        rw [hW7] at hbx7 hby7 ho7 hB7
        clear hbx6 hby6 ho6 hB6
        have k0 := hbx7.c0
        have k1 := hbx7.c1
        have k2 := hbx7.c2
        have k3 := hbx7.c3
        have k4 := hbx7.c4
        have d0 := hby7.c0
        have d1 := hby7.c1
        have d2 := hby7.c2
        have d3 := hby7.c3
        have d4 := hby7.c4
        have g0 := hby7.f0
        have g1 := hby7.f1
        have g2 := hby7.f2
        have g3 := hby7.f3
        have g4 := hby7.f4
        go_wp2_with fail
        refine bodyPost_ret (sc_resW rfl (box5_set5 hby7 _ _ _ _ _)) rfl ⟨_, rfl, ?_, ?_⟩
        · rw [HR.out]; unfold scIns; rw [HPOS.out]
          have := own_setCell (own_setCell (own_setCell (own_setCell (own_setCell ho7 ⟨w.heap.size + 1 + 1, 0, none⟩ (.slice a6 (R.length + 1) c6) (by show w.heap.size + 1 + 1 < _; omega)) ⟨w.heap.size + 1 + 1, 1, none⟩ (.int .i64 16) (by show w.heap.size + 1 + 1 < _; omega)) ⟨w.heap.size + 1 + 1, 2, none⟩ (.func (.func 32) #[] #[]) (by show w.heap.size + 1 + 1 < _; omega)) ⟨w.heap.size + 1 + 1, 3, none⟩ (.func (.func 33) #[] #[]) (by show w.heap.size + 1 + 1 < _; omega)) ⟨w.heap.size + 1 + 1, 4, none⟩ (.func (.func 34) #[] #[]) (by show w.heap.size + 1 + 1 < _; omega)
          exact ownsR_base this (by omega)
        · exact ((((hB7.setCell (by show _ ≤ w.heap.size + 1 + 1; omega) _).setCell (by show _ ≤ w.heap.size + 1 + 1; omega) _).setCell (by show _ ≤ w.heap.size + 1 + 1; omega) _).setCell (by show _ ≤ w.heap.size + 1 + 1; omega) _).setCell (by show _ ≤ w.heap.size + 1 + 1; omega) _
  · go_simp
    refine (scName_any y _).mono ?_
    rintro e w1 ⟨rfl, hb1⟩
    refine hK.out _ _ ?_ (fun hHeld => ?_)
    · exact ⟨(hb1.cell (p := ⟨w.heap.size, 3, none⟩) (by show w.heap.size < W0.heap.size; omega)).trans e3, (hb1.cell (p := ⟨w.heap.size + 1, 0, none⟩) (by show w.heap.size + 1 < W0.heap.size; omega)).trans hy0, (hb1.cell (p := ⟨w.heap.size + 1, 1, none⟩) (by show w.heap.size + 1 < W0.heap.size; omega)).trans hy1⟩
    clear hK K
    (try simp only [Act.put]); (try simp only [List.setIfInBounds_toArray]); (try simp only [List.set_cons_succ]); (try simp only [List.set_cons_zero])
    have hb1 : Below W0.heap.size W0 w1 := (Below.refl W0.heap.size W0).drew.trans hb1
    have hbw := box5_below hbx hb1 (by show w.heap.size < W0.heap.size; omega)
    clear e0 e1 e2 e3 e4
    have e0 := hbw.c0
    have e1 := hbw.c1
    have e2 := hbw.c2
    have e3 := hbw.c3
    have e4 := hbw.c4
    refine wpAnyH_ready (rs := [0]) (by kernel_rfl) (by simp) ?_
    refine AllReadyH.cons rfl (fun K hK => ?_) AllReadyH.nil
    go_simp
    refine hK.out _ _ ?_ (fun hHeld => ?_)
    · exact hHeld
    clear hK K e0 e1 e2 e3 e4 hbw
    (try simp only [Act.put]); (try simp only [List.setIfInBounds_toArray]); (try simp only [List.set_cons_succ]); (try simp only [List.set_cons_zero])
    have hz1 := hb1.size
    have hbx1 := box5_below hbx hb1 (by omega)
    have hby1 := box5_below hby hb1 (by omega)
    have hB1 := hB0.trans (hb1.mono hB0.size)
    have hk0 := hb1.cell (p := ⟨w.heap.size + 1, 0, none⟩) (by show w.heap.size + 1 < _; omega) |>.trans hy0
    have hk1 := hb1.cell (p := ⟨w.heap.size + 1, 1, none⟩) (by show w.heap.size + 1 < _; omega) |>.trans hy1
    refine wpAnyH_ready (rs := [5]) (by kernel_rfl) (by simp) ?_
    refine AllReadyH.cons rfl (fun K hK => ?_) AllReadyH.nil
    go_simp
    refine (scWithout_any _ l y.1 _ (readsR_kept hr hB1) hlen).mono ?_; rintro e w2 ⟨x, rfl, ho2, hb2⟩
    refine hK.out _ _ ?_ (fun hHeld => ?_)
    · exact ⟨(hb2.cell (p := ⟨w.heap.size, 3, none⟩) (by show w.heap.size < _; omega)).trans hbx1.c3, (hb2.cell (p := ⟨w.heap.size + 1, 0, none⟩) (by show w.heap.size + 1 < _; omega)).trans hk0, (hb2.cell (p := ⟨w.heap.size + 1, 1, none⟩) (by show w.heap.size + 1 < _; omega)).trans hk1⟩
    clear hK K
    try simp only [Act.put, List.setIfInBounds_toArray, List.set_cons_succ, List.set_cons_zero]
    refine takeH (i := 6) (d := (some 6)) (v := ?_) rfl rfl (by kernel_rfl) (by kernel_rfl) (by kernel_rfl) (fun _ _ _ h => h) (by kernel_rfl) ?_ (by assumption) ?_
    rotate_left
    · (intro w hSw; (try dsimp only at hSw); go_simp; try with_reducible rfl)
    try simp only [Act.put, List.setIfInBounds_toArray, List.set_cons_succ, List.set_cons_zero]
    refine takeH (i := 7) (d := (some 13)) (v := ?_) rfl rfl (by kernel_rfl) (by kernel_rfl) (by kernel_rfl) (fun _ _ _ h => h) (by kernel_rfl) ?_ (by assumption) ?_
    rotate_left
    · (intro w hSw; (try dsimp only at hSw); go_simp; try with_reducible rfl)
    try simp only [Act.put, List.setIfInBounds_toArray, List.set_cons_succ, List.set_cons_zero]
    refine takeH (i := 8) (d := (some 14)) (v := ?_) rfl rfl (by kernel_rfl) (by kernel_rfl) (by kernel_rfl) (fun _ _ _ h => h) (by kernel_rfl) ?_ (by assumption) ?_
    rotate_left
    · (intro w hSw; (try dsimp only at hSw); go_simp; try with_reducible rfl)
    try simp only [Act.put, List.setIfInBounds_toArray, List.set_cons_succ, List.set_cons_zero]
    have hz2 := hb2.size
    have hbx2 := box5_below hbx1 hb2 (by omega)
    have hby2 := box5_below hby1 hb2 (by omega)
    have hB2 := hB1.trans (hb2.mono hB1.size)
    have hm0 := hb2.cell (p := ⟨w.heap.size + 1, 0, none⟩) (by show w.heap.size + 1 < _; omega) |>.trans hk0
    have hm1 := hb2.cell (p := ⟨w.heap.size + 1, 1, none⟩) (by show w.heap.size + 1 < _; omega) |>.trans hk1
    have ho2 := ownsR_base ho2 (show W0.heap.size ≤ w1.heap.size from hz1)
    obtain ⟨ax, cx, hxv⟩ := readsR_shape (ownsR_reads scC_len ho2)
    subst hxv
    obtain ⟨R, hR⟩ : ∃ R, scWo l y.1 = R := ⟨_, rfl⟩
    have hRl : R.length ≤ 1048576 := by rw [← hR]; exact Nat.le_trans (scWo_len l y.1) hlen
    have HR : Hid (scWo l y.1 = R) := hR
    rw [hR] at ho2 ⊢
    clear hR
    clear hb1 hb2 hbx1 hby1 hB1 hk0 hk1 hHeld
    have c0 := hbx2.c0
    have c1 := hbx2.c1
    have c2 := hbx2.c2
    have c3 := hbx2.c3
    have c4 := hbx2.c4
    have f0 := hbx2.f0
    have f1 := hbx2.f1
    have f2 := hbx2.f2
    have f3 := hbx2.f3
    have f4 := hbx2.f4
    have hbx3 := box5_allSc hbx2 (.slice ax R.length cx) (.int .i64 16) (.func (.func 32) #[] #[]) (.func (.func 33) #[] #[]) (.func (.func 34) #[] #[])
    have hB3 := ((((hB2.setCell (p := ⟨w.heap.size, 0, none⟩) (Nat.le_refl _) (.slice ax R.length cx)).setCell (p := ⟨w.heap.size, 1, none⟩) (Nat.le_refl _) (.int .i64 16)).setCell (p := ⟨w.heap.size, 2, none⟩) (Nat.le_refl _) (.func (.func 32) #[] #[])).setCell (p := ⟨w.heap.size, 3, none⟩) (Nat.le_refl _) (.func (.func 33) #[] #[])).setCell (p := ⟨w.heap.size, 4, none⟩) (Nat.le_refl _) (.func (.func 34) #[] #[])
    have ho3 := own_setCell (own_setCell (own_setCell (own_setCell (own_setCell ho2 ⟨w.heap.size, 0, none⟩ (.slice ax R.length cx) (by show w.heap.size < _; omega)) ⟨w.heap.size, 1, none⟩ (.int .i64 16) (by show w.heap.size < _; omega)) ⟨w.heap.size, 2, none⟩ (.func (.func 32) #[] #[]) (by show w.heap.size < _; omega)) ⟨w.heap.size, 3, none⟩ (.func (.func 33) #[] #[]) (by show w.heap.size < _; omega)) ⟨w.heap.size, 4, none⟩ (.func (.func 34) #[] #[]) (by show w.heap.size < _; omega)
    have hgr : w2.grownBy (((((w2.setCell ⟨w.heap.size, 0, none⟩ (.slice ax R.length cx)).setCell ⟨w.heap.size, 1, none⟩ (.int .i64 16)).setCell ⟨w.heap.size, 2, none⟩ (.func (.func 32) #[] #[])).setCell ⟨w.heap.size, 3, none⟩ (.func (.func 33) #[] #[])).setCell ⟨w.heap.size, 4, none⟩ (.func (.func 34) #[] #[])) (some w.heap.size) :=
      grown_two (grown_two (grown_two (grown_two (grown_setCell w2 ⟨w.heap.size, 0, none⟩ (.slice ax R.length cx)) (grown_setCell _ ⟨w.heap.size, 1, none⟩ _)) (grown_setCell _ ⟨w.heap.size, 2, none⟩ _)) (grown_setCell _ ⟨w.heap.size, 3, none⟩ _)) (grown_setCell _ ⟨w.heap.size, 4, none⟩ _)
    obtain ⟨W3, hW3⟩ : ∃ W3, ((((w2.setCell ⟨w.heap.size, 0, none⟩ (.slice ax R.length cx)).setCell ⟨w.heap.size, 1, none⟩ (.int .i64 16)).setCell ⟨w.heap.size, 2, none⟩ (.func (.func 32) #[] #[])).setCell ⟨w.heap.size, 3, none⟩ (.func (.func 33) #[] #[])).setCell ⟨w.heap.size, 4, none⟩ (.func (.func 34) #[] #[]) = W3 := ⟨_, rfl⟩
    rw [hW3] at hbx3 hB3 ho3 hgr
    have hby3 := box5_kept hby2 hgr (by intro h; have := Option.some.inj h; omega)
    have hp0 : W3.cell? ⟨w.heap.size + 1, 0, none⟩ = some (.string y.1) := (World.cell?_of_block (hgr.block (w.heap.size + 1) (by omega) (by intro h; have := Option.some.inj h; omega))).trans hm0
    have hp1 : W3.cell? ⟨w.heap.size + 1, 1, none⟩ = some (.int .i64 y.2) := (World.cell?_of_block (hgr.block (w.heap.size + 1) (by omega) (by intro h; have := Option.some.inj h; omega))).trans hm1
    have hz3 := hgr.size
    refine wpAnyH_ready (rs := [9]) (by kernel_rfl) (by simp) ?_
    refine AllReadyH.cons rfl (fun K hK => ?_) AllReadyH.nil
    go_simp
    refine hK.out _ _ ?_ (fun hHeld => ?_)
    · exact ⟨hbx3.c3, hp0, hp1⟩
    clear hK K
    (try simp only [Act.put]); (try simp only [List.setIfInBounds_toArray]); (try simp only [List.set_cons_succ]); (try simp only [List.set_cons_zero])
    refine wpAnyH_done (by kernel_rfl) ?_ _
    clear hW3 c0 c1 c2 c3 c4 f0 f1 f2 f3 f4 hbx2 hby2 hB2 ho2 hgr hm0 hm1 hHeld hbx hby hB0 hy0 hy1
    go_wp2_with fail
    go_loopw [5] (fun i wr => ∃ k : Nat, k ≤ R.length ∧ i = .int .i64 (k : Int) ∧ scILow R y k ∧ Below W3.heap.size W3 wr) (fun i _ => R.length - (intOf i).toNat)
    case atStart => exact ⟨0, Nat.zero_le _, rfl, fun j hj => by omega, Below.refl _ _⟩
    case round =>
      obtain ⟨k, hk, rfl, hlow, hB⟩ := hrel
      have hbxr := box5_below hbx3 hB (by omega)
      have q0 := hbxr.c0
      have q2 := hbxr.c2
      have hr0 := hB.cell (p := ⟨w.heap.size + 1, 0, none⟩) (by show w.heap.size + 1 < _; omega) |>.trans hp0
      have hr1 := hB.cell (p := ⟨w.heap.size + 1, 1, none⟩) (by show w.heap.size + 1 < _; omega) |>.trans hp1
      have hzr := hB.size
      by_cases hlt : k < R.length
      · have hd : decide ((k : Int) < (R.length : Int)) = true := by simp; omega
        have hd2 : (k : Int) < (R.length : Int) := by omega
        obtain ⟨g, hg⟩ : ∃ g, ax = some ⟨g, 0, none⟩ := by
          rcases ownsR_form ho3 with ⟨h0, _⟩ | ⟨_, g, c, hv⟩
          · rw [h0] at hlt; simp at hlt
          · simp only [Value.slice.injEq, true_and] at hv; exact ⟨g, hv.1⟩
        subst hg
        have hgl := (World.ownsRow.lt ho3 g rfl).2
        have s0 : W3.cell? ⟨g, k * 2, none⟩ = _ := cellR scC_len ho3 (scAt_some hlt) 0 _ rfl
        have s1 : W3.cell? ⟨g, k * 2 + 1, none⟩ = _ := cellR scC_len ho3 (scAt_some hlt) 1 _ rfl
        have t0 := hB.cell (p := ⟨g, k * 2, none⟩) hgl |>.trans s0
        have t1 := hB.cell (p := ⟨g, k * 2 + 1, none⟩) hgl |>.trans s1
        clear s0 s1
        have hgr : g < wr.heap.size := by omega
        go_wp2_with fail
        refine wp_region_held_drew (S := (fun w' => (w'.cell? ⟨w.heap.size, 0, none⟩ = some (.slice (some ⟨g, 0, none⟩) R.length cx) ∧ w'.cell? ⟨w.heap.size, 2, none⟩ = some (.func (.func 32) #[] #[]) ∧ w'.cell? ⟨w.heap.size + 1, 0, none⟩ = some (.string y.1) ∧ w'.cell? ⟨w.heap.size + 1, 1, none⟩ = some (.int .i64 y.2) ∧ w'.cell? ⟨g, k * 2, none⟩ = some (.string (scAt R k).1) ∧ w'.cell? ⟨g, k * 2 + 1, none⟩ = some (.int .i64 (scAt R k).2)) ∧ Below wr.heap.size wr w')) (by kernel_rfl) (by exact ⟨⟨q0, q2, hr0, hr1, t0, t1⟩, (Below.refl _ wr).drew⟩) (fun hHeld => ?_)
        refine takeH (i := 0) (d := (some 15)) (v := ?_) rfl rfl (by kernel_rfl) (by kernel_rfl) (by kernel_rfl) (fun _ _ _ h => h) (by kernel_rfl) ?_ (by assumption) ?_
        rotate_left
        · (intro w hSw; (try dsimp only at hSw); go_simp; try with_reducible rfl)
        try simp only [Act.put, List.setIfInBounds_toArray, List.set_cons_succ, List.set_cons_zero]
        refine takeH (i := 1) (d := (some 16)) (v := ?_) rfl rfl (by kernel_rfl) (by kernel_rfl) (by kernel_rfl) (fun _ _ _ h => h) (by kernel_rfl) ?_ (by assumption) ?_
        rotate_left
        · (intro w hSw; (try dsimp only at hSw); go_simp; try with_reducible rfl)
        try simp only [Act.put, List.setIfInBounds_toArray, List.set_cons_succ, List.set_cons_zero]
        refine takeH (i := 2) (d := (some 17)) (v := ?_) rfl rfl (by kernel_rfl) (by kernel_rfl) (by kernel_rfl) (fun _ _ _ h => h) (by kernel_rfl) ?_ (by assumption) ?_
        rotate_left
        · (intro w hSw; (try dsimp only at hSw); go_simp; try with_reducible rfl)
        try simp only [Act.put, List.setIfInBounds_toArray, List.set_cons_succ, List.set_cons_zero]
        refine takeH (i := 3) (d := (some 18)) (v := ?_) rfl rfl (by kernel_rfl) (by kernel_rfl) (by kernel_rfl) (fun _ _ _ h => h) (by kernel_rfl) ?_ (by assumption) ?_
        rotate_left
        · (intro w hSw; (try dsimp only at hSw); go_simp; try with_reducible rfl)
        try simp only [Act.put, List.setIfInBounds_toArray, List.set_cons_succ, List.set_cons_zero]
        refine takeH (i := 4) (d := (some 19)) (v := ?_) rfl rfl (by kernel_rfl) (by kernel_rfl) (by kernel_rfl) (fun _ _ _ h => h) (by kernel_rfl) ?_ (by assumption) ?_
        rotate_left
        · (intro w hSw; (try dsimp only at hSw); go_simp; try with_reducible rfl)
        try simp only [Act.put, List.setIfInBounds_toArray, List.set_cons_succ, List.set_cons_zero]
        refine takeH (i := 5) (d := (some 20)) (v := ?_) rfl rfl (by kernel_rfl) (by kernel_rfl) (by kernel_rfl) (fun _ _ _ h => h) (by kernel_rfl) ?_ (by assumption) ?_
        rotate_left
        · (intro w hSw; (try dsimp only at hSw); go_simp; try with_reducible rfl)
        try simp only [Act.put, List.setIfInBounds_toArray, List.set_cons_succ, List.set_cons_zero]
        refine takeH (i := 6) (d := (some 21)) (v := ?_) rfl rfl (by kernel_rfl) (by kernel_rfl) (by kernel_rfl) (fun _ _ _ h => h) (by kernel_rfl) ?_ (by assumption) ?_
        rotate_left
        · (intro w hSw; (try dsimp only at hSw); go_simp; try with_reducible rfl)
        try simp only [Act.put, List.setIfInBounds_toArray, List.set_cons_succ, List.set_cons_zero]
        refine takeH (i := 7) (d := (some 22)) (v := ?_) rfl rfl (by kernel_rfl) (by kernel_rfl) (by kernel_rfl) (fun _ _ _ h => h) (by kernel_rfl) ?_ (by assumption) ?_
        rotate_left
        · (intro w hSw; (try dsimp only at hSw); go_simp; try with_reducible rfl)
        try simp only [Act.put, List.setIfInBounds_toArray, List.set_cons_succ, List.set_cons_zero]
        refine takeH (i := 8) (d := (some 23)) (v := ?_) rfl rfl (by kernel_rfl) (by kernel_rfl) (by kernel_rfl) (fun _ _ _ h => h) (by kernel_rfl) ?_ (by assumption) ?_
        rotate_left
        · (intro w hSw; (try dsimp only at hSw); go_simp; try with_reducible rfl)
        try simp only [Act.put, List.setIfInBounds_toArray, List.set_cons_succ, List.set_cons_zero]
        refine takeH (i := 9) (d := (some 24)) (v := ?_) rfl rfl (by kernel_rfl) (by kernel_rfl) (by kernel_rfl) (fun _ _ _ h => h) (by kernel_rfl) ?_ (by assumption) ?_
        rotate_left
        · (intro w hSw; (try dsimp only at hSw); go_simp; try with_reducible rfl)
        try simp only [Act.put, List.setIfInBounds_toArray, List.set_cons_succ, List.set_cons_zero]
        refine takeH (i := 10) (d := (some 25)) (v := ?_) rfl rfl (by kernel_rfl) (by kernel_rfl) (by kernel_rfl) (fun _ _ _ h => h) (by kernel_rfl) ?_ (by assumption) ?_
        rotate_left
        · (intro w hSw; (try dsimp only at hSw); go_simp; try with_reducible rfl)
        try simp only [Act.put, List.setIfInBounds_toArray, List.set_cons_succ, List.set_cons_zero]
        refine takeH (i := 11) (d := (some 26)) (v := ?_) rfl rfl (by kernel_rfl) (by kernel_rfl) (by kernel_rfl) (fun _ _ _ h => h) (by kernel_rfl) ?_ (by assumption) ?_
        rotate_left
        · (intro w hSw; (try dsimp only at hSw); go_simp; try with_reducible rfl)
        try simp only [Act.put, List.setIfInBounds_toArray, List.set_cons_succ, List.set_cons_zero]
        refine takeH (i := 12) (d := (some 27)) (v := ?_) rfl rfl (by kernel_rfl) (by kernel_rfl) (by kernel_rfl) (fun _ _ _ h => h) (by kernel_rfl) ?_ (by assumption) ?_
        rotate_left
        · (intro w hSw; (try dsimp only at hSw); go_simp; try with_reducible rfl)
        try simp only [Act.put, List.setIfInBounds_toArray, List.set_cons_succ, List.set_cons_zero]
        refine takeH (i := 13) (d := (some 28)) (v := ?_) rfl rfl (by kernel_rfl) (by kernel_rfl) (by kernel_rfl) (fun _ _ _ h => h) (by kernel_rfl) ?_ (by assumption) ?_
        rotate_left
        · (intro w hSw; (try dsimp only at hSw); go_simp; try with_reducible rfl)
        try simp only [Act.put, List.setIfInBounds_toArray, List.set_cons_succ, List.set_cons_zero]
        refine wpAnyH_ready (rs := [14]) (by kernel_rfl) (by simp) ?_
        refine AllReadyH.cons rfl (fun K hK => ?_) AllReadyH.nil
        go_simp
        refine (scAhead_any (scAt R k) y _).mono ?_; rintro e w4 ⟨rfl, hb4⟩
        refine hK.out _ _ ?_ (fun hHeld => ?_)
        · exact ⟨⟨(hb4.cell (p := ⟨w.heap.size, 0, none⟩) (by show w.heap.size < wr.heap.size; omega)).trans q0, (hb4.cell (p := ⟨w.heap.size, 2, none⟩) (by show w.heap.size < wr.heap.size; omega)).trans q2, (hb4.cell (p := ⟨w.heap.size + 1, 0, none⟩) (by show w.heap.size + 1 < wr.heap.size; omega)).trans hr0, (hb4.cell (p := ⟨w.heap.size + 1, 1, none⟩) (by show w.heap.size + 1 < wr.heap.size; omega)).trans hr1, (hb4.cell (p := ⟨g, k * 2, none⟩) hgr).trans t0, (hb4.cell (p := ⟨g, k * 2 + 1, none⟩) hgr).trans t1⟩, (Below.refl _ wr).drew.trans hb4⟩
        clear hK K
        try simp only [Act.put, List.setIfInBounds_toArray, List.set_cons_succ, List.set_cons_zero]
        refine takeH (i := 15) (d := (some 30)) (v := ?_) rfl rfl (by kernel_rfl) (by kernel_rfl) (by kernel_rfl) (fun _ _ _ h => h) (by kernel_rfl) ?_ (by assumption) ?_
        rotate_left
        · (intro w hSw; (try dsimp only at hSw); go_simp; try with_reducible rfl)
        try simp only [Act.put, List.setIfInBounds_toArray, List.set_cons_succ, List.set_cons_zero]
        refine wpAnyH_done (by kernel_rfl) ?_ _
        have HB4 : Below W3.heap.size W3 w4 := hB.trans (hHeld.2.mono hzr)
        clear hHeld hb4 q0 q2 hr0 hr1 t0 t1 hbxr hB
        cases ha : scAheadB (scAt R k) y with
        | true =>
          have HL : Hid (scILow R y (k + 1)) := scILow_step hlow ha
          clear ha hd hd2
          go_wp2_with fail
          go_roundw
          case rel => exact ⟨k + 1, hlt, by go_num, HL.out, HB4⟩
          case measure => simp [intOf]; omega
        | false =>
          have HPOS : Hid (scIPos R y = k) := scIPos_at hlt hlow ha
          clear ha hd hd2
          have ho4 := ownsR_kept ho3 HB4
          have hbx4 := box5_below hbx3 HB4 (by omega)
          have hby4 := box5_below hby3 HB4 (by omega)
          have hz4 := (HB4).size
          have hq0 := (HB4).cell (p := ⟨w.heap.size + 1, 0, none⟩) (by show w.heap.size + 1 < _; omega) |>.trans hp0
          have hq1 := (HB4).cell (p := ⟨w.heap.size + 1, 1, none⟩) (by show w.heap.size + 1 < _; omega) |>.trans hp1
          have hB4 : Below w.heap.size w (w4) := hB3.trans ((HB4).mono hB3.size)
          clear hp0 hp1 ho3 hbx3 hby3 hB3
          have e0 := hbx4.c0
          obtain ⟨W5, hW5⟩ : ∃ W5, (w4).alloc (.cells #[.string y.1, .int .i64 y.2] 36) = W5 := ⟨_, rfl⟩
          have hv5 : W5.heap[(w4).heap.size]? = some (.cells (scC y).toArray 36 (0, 0)) := by rw [← hW5]; exact heap_alloc_new _ _
          have hb5 : Below (w4).heap.size (w4) W5 := by rw [← hW5]; exact (Below.refl _ _).alloc (Nat.le_refl _) _
          have ho5 := ownsR_kept ho4 hb5
          have hbx5 := box5_below hbx4 hb5 (by omega)
          have hby5 := box5_below hby4 hb5 (by omega)
          have hz5 := hb5.size
          have hB5 : Below w.heap.size w W5 := hB4.trans (hb5.mono hB4.size)
          have hne : Value.ownBlock (.slice (some ⟨g, 0, none⟩) R.length cx) ≠ some (w4).heap.size := fun h => by have := (World.ownsRow.lt ho4 _ h).2; omega
          clear hbx4 hby4 hB4 hb5
          go_wp2_with fail
          refine (scInsert_any _ R k y _ W0.heap.size W5 ho5 hv5 hne (by omega) (by omega) hRl).mono ?_
          rintro e w6 ⟨x6, rfl, ho6, hb6⟩
          obtain ⟨a6, c6, hx6⟩ := readsR_shape (ownsR_reads scC_len ho6)
          subst hx6
          have hl6 : (R.take k ++ y :: R.drop k).length = R.length + 1 := ins_len R k y (by omega)
          rw [hl6] at ho6 ⊢
          have hbx6 := box5_below hbx5 hb6 (by omega)
          have hby6 := box5_below hby5 hb6 (by omega)
          have hz6 := hb6.size
          have hB6 : Below w.heap.size w w6 := hB5.trans (hb6.mono (by omega))
          clear hbx5 hby5 hB5 hb6 ho5 hv5 hne ho4 hW5 e0
          have e0 := hbx6.c0
          have e1 := hbx6.f0
          have hbx7 := box5_set0 hbx6 (.slice a6 (R.length + 1) c6)
          have hby7 := box5_kept hby6 (grown_setCell w6 ⟨w.heap.size, 0, none⟩ (.slice a6 (R.length + 1) c6)) (by simp; omega)
          have ho7 := own_setCell ho6 ⟨w.heap.size, 0, none⟩ (.slice a6 (R.length + 1) c6) (by show w.heap.size < _; omega)
          have hB7 : Below w.heap.size w (w6.setCell ⟨w.heap.size, 0, none⟩ (.slice a6 (R.length + 1) c6)) := hB6.setCell (Nat.le_refl _) _
          obtain ⟨W7, hW7⟩ : ∃ W7, w6.setCell ⟨w.heap.size, 0, none⟩ (.slice a6 (R.length + 1) c6) = W7 := ⟨_, rfl⟩
          rw [hW7] at hbx7 hby7 ho7 hB7
          clear hbx6 hby6 ho6 hB6
          have k0 := hbx7.c0
          have k1 := hbx7.c1
          have k2 := hbx7.c2
          have k3 := hbx7.c3
          have k4 := hbx7.c4
          have d0 := hby7.c0
          have d1 := hby7.c1
          have d2 := hby7.c2
          have d3 := hby7.c3
          have d4 := hby7.c4
          have g0 := hby7.f0
          have g1 := hby7.f1
          have g2 := hby7.f2
          have g3 := hby7.f3
          have g4 := hby7.f4
          go_wp2_with fail
          refine bodyPost_ret (sc_resW rfl (box5_set5 hby7 _ _ _ _ _)) rfl ⟨_, rfl, ?_, ?_⟩
          · rw [HR.out]; unfold scIns; rw [HPOS.out]
            have := own_setCell (own_setCell (own_setCell (own_setCell (own_setCell ho7 ⟨w.heap.size + 1 + 1, 0, none⟩ (.slice a6 (R.length + 1) c6) (by show w.heap.size + 1 + 1 < _; omega)) ⟨w.heap.size + 1 + 1, 1, none⟩ (.int .i64 16) (by show w.heap.size + 1 + 1 < _; omega)) ⟨w.heap.size + 1 + 1, 2, none⟩ (.func (.func 32) #[] #[]) (by show w.heap.size + 1 + 1 < _; omega)) ⟨w.heap.size + 1 + 1, 3, none⟩ (.func (.func 33) #[] #[]) (by show w.heap.size + 1 + 1 < _; omega)) ⟨w.heap.size + 1 + 1, 4, none⟩ (.func (.func 34) #[] #[]) (by show w.heap.size + 1 + 1 < _; omega)
            exact ownsR_base this (by omega)
          · exact ((((hB7.setCell (by show _ ≤ w.heap.size + 1 + 1; omega) _).setCell (by show _ ≤ w.heap.size + 1 + 1; omega) _).setCell (by show _ ≤ w.heap.size + 1 + 1; omega) _).setCell (by show _ ≤ w.heap.size + 1 + 1; omega) _).setCell (by show _ ≤ w.heap.size + 1 + 1; omega) _
      · obtain rfl : k = R.length := by omega
        have hd : decide ((R.length : Int) < (R.length : Int)) = false := by simp
        go_wp2_with fail
        refine wp_region_held_drew (S := (fun w' => w'.cell? ⟨w.heap.size, 0, none⟩ = some (.slice ax R.length cx))) (by kernel_rfl) (by exact q0) (fun hHeld => ?_)
        refine takeH (i := 0) (d := (some 15)) (v := ?_) rfl rfl (by kernel_rfl) (by kernel_rfl) (by kernel_rfl) (fun _ _ _ h => h) (by kernel_rfl) ?_ (by assumption) ?_
        rotate_left
        · (intro w hSw; (try dsimp only at hSw); go_simp; try with_reducible rfl)
        try simp only [Act.put, List.setIfInBounds_toArray, List.set_cons_succ, List.set_cons_zero]
        refine takeH (i := 1) (d := (some 16)) (v := ?_) rfl rfl (by kernel_rfl) (by kernel_rfl) (by kernel_rfl) (fun _ _ _ h => h) (by kernel_rfl) ?_ (by assumption) ?_
        rotate_left
        · (intro w hSw; (try dsimp only at hSw); go_simp; try with_reducible rfl)
        try simp only [Act.put, List.setIfInBounds_toArray, List.set_cons_succ, List.set_cons_zero]
        refine takeH (i := 2) (d := (some 17)) (v := ?_) rfl rfl (by kernel_rfl) (by kernel_rfl) (by kernel_rfl) (fun _ _ _ h => h) (by kernel_rfl) ?_ (by assumption) ?_
        rotate_left
        · (intro w hSw; (try dsimp only at hSw); go_simp; try with_reducible rfl)
        try simp only [Act.put, List.setIfInBounds_toArray, List.set_cons_succ, List.set_cons_zero]
        refine takeH (i := 3) (d := (some 18)) (v := ?_) rfl rfl (by kernel_rfl) (by kernel_rfl) (by kernel_rfl) (fun _ _ _ h => h) (by kernel_rfl) ?_ (by assumption) ?_
        rotate_left
        · (intro w hSw; (try dsimp only at hSw); go_simp; try with_reducible rfl)
        try simp only [Act.put, List.setIfInBounds_toArray, List.set_cons_succ, List.set_cons_zero]
        refine takeH (i := 4) (d := (some 19)) (v := ?_) rfl rfl (by kernel_rfl) (by kernel_rfl) (by kernel_rfl) (fun _ _ _ h => h) (by kernel_rfl) ?_ (by assumption) ?_
        rotate_left
        · (intro w hSw; (try dsimp only at hSw); go_simp; try with_reducible rfl)
        try simp only [Act.put, List.setIfInBounds_toArray, List.set_cons_succ, List.set_cons_zero]
        refine takeH (i := 5) (d := (some 20)) (v := ?_) rfl rfl (by kernel_rfl) (by kernel_rfl) (by kernel_rfl) (fun _ _ _ h => h) (by kernel_rfl) ?_ (by assumption) ?_
        rotate_left
        · (intro w hSw; (try dsimp only at hSw); go_simp; try with_reducible rfl)
        try simp only [Act.put, List.setIfInBounds_toArray, List.set_cons_succ, List.set_cons_zero]
        refine skipH (i := 6) (d := (some 21)) rfl rfl (by kernel_rfl) (by kernel_rfl) (by kernel_rfl) (fun _ _ _ h => h) (by kernel_rfl) (by assumption) ?_
        try simp only [Act.put, List.setIfInBounds_toArray, List.set_cons_succ, List.set_cons_zero]
        refine skipH (i := 7) (d := (some 22)) rfl rfl (by kernel_rfl) (by kernel_rfl) (by kernel_rfl) (fun _ _ _ h => h) (by kernel_rfl) (by assumption) ?_
        try simp only [Act.put, List.setIfInBounds_toArray, List.set_cons_succ, List.set_cons_zero]
        refine skipH (i := 8) (d := (some 23)) rfl rfl (by kernel_rfl) (by kernel_rfl) (by kernel_rfl) (fun _ _ _ h => h) (by kernel_rfl) (by assumption) ?_
        try simp only [Act.put, List.setIfInBounds_toArray, List.set_cons_succ, List.set_cons_zero]
        refine skipH (i := 9) (d := (some 24)) rfl rfl (by kernel_rfl) (by kernel_rfl) (by kernel_rfl) (fun _ _ _ h => h) (by kernel_rfl) (by assumption) ?_
        try simp only [Act.put, List.setIfInBounds_toArray, List.set_cons_succ, List.set_cons_zero]
        refine skipH (i := 10) (d := (some 25)) rfl rfl (by kernel_rfl) (by kernel_rfl) (by kernel_rfl) (fun _ _ _ h => h) (by kernel_rfl) (by assumption) ?_
        try simp only [Act.put, List.setIfInBounds_toArray, List.set_cons_succ, List.set_cons_zero]
        refine skipH (i := 11) (d := (some 26)) rfl rfl (by kernel_rfl) (by kernel_rfl) (by kernel_rfl) (fun _ _ _ h => h) (by kernel_rfl) (by assumption) ?_
        try simp only [Act.put, List.setIfInBounds_toArray, List.set_cons_succ, List.set_cons_zero]
        refine skipH (i := 12) (d := (some 27)) rfl rfl (by kernel_rfl) (by kernel_rfl) (by kernel_rfl) (fun _ _ _ h => h) (by kernel_rfl) (by assumption) ?_
        try simp only [Act.put, List.setIfInBounds_toArray, List.set_cons_succ, List.set_cons_zero]
        refine skipH (i := 13) (d := (some 28)) rfl rfl (by kernel_rfl) (by kernel_rfl) (by kernel_rfl) (fun _ _ _ h => h) (by kernel_rfl) (by assumption) ?_
        try simp only [Act.put, List.setIfInBounds_toArray, List.set_cons_succ, List.set_cons_zero]
        refine skipH (i := 14) (d := (some 29)) rfl rfl (by kernel_rfl) (by kernel_rfl) (by kernel_rfl) (fun _ _ _ h => h) (by kernel_rfl) (by assumption) ?_
        try simp only [Act.put, List.setIfInBounds_toArray, List.set_cons_succ, List.set_cons_zero]
        refine takeH (i := 15) (d := (some 30)) (v := ?_) rfl rfl (by kernel_rfl) (by kernel_rfl) (by kernel_rfl) (fun _ _ _ h => h) (by kernel_rfl) ?_ (by assumption) ?_
        rotate_left
        · (intro w hSw; (try dsimp only at hSw); go_simp; try with_reducible rfl)
        try simp only [Act.put, List.setIfInBounds_toArray, List.set_cons_succ, List.set_cons_zero]
        refine wpAnyH_done (by kernel_rfl) ?_ _
        clear hHeld q0 q2 hr0 hr1 hbxr
        have HPOS : Hid (scIPos R y = R.length) := scIPos_end hlow
        have HB4 : Below W3.heap.size W3 wr.drew := hB.drew
        clear hB
        generalize wr.drew = w4 at *
        clear hd
        have ho4 := ownsR_kept ho3 HB4
        have hbx4 := box5_below hbx3 HB4 (by omega)
        have hby4 := box5_below hby3 HB4 (by omega)
        have hz4 := (HB4).size
        have hq0 := (HB4).cell (p := ⟨w.heap.size + 1, 0, none⟩) (by show w.heap.size + 1 < _; omega) |>.trans hp0
        have hq1 := (HB4).cell (p := ⟨w.heap.size + 1, 1, none⟩) (by show w.heap.size + 1 < _; omega) |>.trans hp1
        have hB4 : Below w.heap.size w (w4) := hB3.trans ((HB4).mono hB3.size)
        clear hp0 hp1 ho3 hbx3 hby3 hB3
        have e0 := hbx4.c0
        obtain ⟨W5, hW5⟩ : ∃ W5, (w4).alloc (.cells #[.string y.1, .int .i64 y.2] 36) = W5 := ⟨_, rfl⟩
        have hv5 : W5.heap[(w4).heap.size]? = some (.cells (scC y).toArray 36 (0, 0)) := by rw [← hW5]; exact heap_alloc_new _ _
        have hb5 : Below (w4).heap.size (w4) W5 := by rw [← hW5]; exact (Below.refl _ _).alloc (Nat.le_refl _) _
        have ho5 := ownsR_kept ho4 hb5
        have hbx5 := box5_below hbx4 hb5 (by omega)
        have hby5 := box5_below hby4 hb5 (by omega)
        have hz5 := hb5.size
        have hB5 : Below w.heap.size w W5 := hB4.trans (hb5.mono hB4.size)
        have hne : Value.ownBlock (.slice ax R.length cx) ≠ some (w4).heap.size := fun h => by have := (World.ownsRow.lt ho4 _ h).2; omega
        clear hbx4 hby4 hB4 hb5
        go_wp2_with fail
        refine (scInsert_any _ R R.length y _ W0.heap.size W5 ho5 hv5 hne (by omega) (by omega) hRl).mono ?_
        rintro e w6 ⟨x6, rfl, ho6, hb6⟩
        obtain ⟨a6, c6, hx6⟩ := readsR_shape (ownsR_reads scC_len ho6)
        subst hx6
        have hl6 : (R.take R.length ++ y :: R.drop R.length).length = R.length + 1 := ins_len R R.length y (by omega)
        rw [hl6] at ho6 ⊢
        have hbx6 := box5_below hbx5 hb6 (by omega)
        have hby6 := box5_below hby5 hb6 (by omega)
        have hz6 := hb6.size
        have hB6 : Below w.heap.size w w6 := hB5.trans (hb6.mono (by omega))
        clear hbx5 hby5 hB5 hb6 ho5 hv5 hne ho4 hW5 e0
        have e0 := hbx6.c0
        have e1 := hbx6.f0
        have hbx7 := box5_set0 hbx6 (.slice a6 (R.length + 1) c6)
        have hby7 := box5_kept hby6 (grown_setCell w6 ⟨w.heap.size, 0, none⟩ (.slice a6 (R.length + 1) c6)) (by simp; omega)
        have ho7 := own_setCell ho6 ⟨w.heap.size, 0, none⟩ (.slice a6 (R.length + 1) c6) (by show w.heap.size < _; omega)
        have hB7 : Below w.heap.size w (w6.setCell ⟨w.heap.size, 0, none⟩ (.slice a6 (R.length + 1) c6)) := hB6.setCell (Nat.le_refl _) _
        obtain ⟨W7, hW7⟩ : ∃ W7, w6.setCell ⟨w.heap.size, 0, none⟩ (.slice a6 (R.length + 1) c6) = W7 := ⟨_, rfl⟩
        rw [hW7] at hbx7 hby7 ho7 hB7
        clear hbx6 hby6 ho6 hB6
        have k0 := hbx7.c0
        have k1 := hbx7.c1
        have k2 := hbx7.c2
        have k3 := hbx7.c3
        have k4 := hbx7.c4
        have d0 := hby7.c0
        have d1 := hby7.c1
        have d2 := hby7.c2
        have d3 := hby7.c3
        have d4 := hby7.c4
        have g0 := hby7.f0
        have g1 := hby7.f1
        have g2 := hby7.f2
        have g3 := hby7.f3
        have g4 := hby7.f4
        go_wp2_with fail
        refine bodyPost_ret (sc_resW rfl (box5_set5 hby7 _ _ _ _ _)) rfl ⟨_, rfl, ?_, ?_⟩
        · rw [HR.out]; unfold scIns; rw [HPOS.out]
          have := own_setCell (own_setCell (own_setCell (own_setCell (own_setCell ho7 ⟨w.heap.size + 1 + 1, 0, none⟩ (.slice a6 (R.length + 1) c6) (by show w.heap.size + 1 + 1 < _; omega)) ⟨w.heap.size + 1 + 1, 1, none⟩ (.int .i64 16) (by show w.heap.size + 1 + 1 < _; omega)) ⟨w.heap.size + 1 + 1, 2, none⟩ (.func (.func 32) #[] #[]) (by show w.heap.size + 1 + 1 < _; omega)) ⟨w.heap.size + 1 + 1, 3, none⟩ (.func (.func 33) #[] #[]) (by show w.heap.size + 1 + 1 < _; omega)) ⟨w.heap.size + 1 + 1, 4, none⟩ (.func (.func 34) #[] #[]) (by show w.heap.size + 1 + 1 < _; omega)
          exact ownsR_base this (by omega)
        · exact ((((hB7.setCell (by show _ ≤ w.heap.size + 1 + 1; omega) _).setCell (by show _ ≤ w.heap.size + 1 + 1; omega) _).setCell (by show _ ≤ w.heap.size + 1 + 1; omega) _).setCell (by show _ ≤ w.heap.size + 1 + 1; omega) _).setCell (by show _ ≤ w.heap.size + 1 + 1; omega) _
end Go.Proofs.Ytndegickekjkjaa
