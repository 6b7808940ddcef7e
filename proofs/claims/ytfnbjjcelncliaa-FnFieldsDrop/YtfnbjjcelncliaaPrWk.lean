/- A row put into a table: the program's FieldsPut. -/
import Derived.Test.YtfnbjjcelncliaaPrWj
import Derived.Test.YtfnbjjcelncliaaPrE
import Derived.OwnWalk
namespace Go.Proofs.Ytfnbjjcelncliaa
open Go.RowKit

theorem below_drewPPr {B : Nat} {a w : World} (h : Below B a w) (m : Nat) : Below B a (w.drewN m) := ⟨h.os, h.tape, h.output, h.size, h.block⟩
def prNew (l : List (ByteArray × ByteArray)) (y : (ByteArray × ByteArray)) : List (ByteArray × ByteArray) := prIns (prWo l y.1) y
def prPtB (l : List (ByteArray × ByteArray)) (y : (ByteArray × ByteArray)) : Bool := prOkB l && prOkB (prNew l y)
def prPtF (l : List (ByteArray × ByteArray)) (y : (ByteArray × ByteArray)) : Bool := prPtB l y && decide (l.length < (prNew l y).length)
def prPtR (l : List (ByteArray × ByteArray)) (y : (ByteArray × ByteArray)) : List (ByteArray × ByteArray) := if prOkB l = true then (if prOkB (prNew l y) = true then prNew l y else l) else []

set_option maxHeartbeats 8000000 in
set_option maxRecDepth 20000 in
theorem prPutW_any (v : Value) (l : List (ByteArray × ByteArray)) (y : (ByteArray × ByteArray)) (w : World) (hr : PrReads w v l) (hlen : l.length ≤ 1048576) :
    Calls Try.prog 41 #[.agg #[v, .int .i64 16, .func (.func 57) #[] #[], .func (.func 58) #[] #[], .func (.func 59) #[] #[]], .agg #[.string y.1, .string y.2]] w fun e w' => ∃ x, e = .returned (.tuple #[x, .bool (prPtF l y), .bool (prPtB l y)]) ∧ PrOwns w' w.heap.size x (prPtR l y) ∧ Below w.heap.size w w' := by
  have hrs := fun (k : Nat) (w : World) (a : Addr) => run_store Try.prog w a (.func (.func k) #[] #[]) .plain rfl
  obtain ⟨ao, cap, rfl⟩ := readsR_shape hr
  obtain ⟨W0, hW0⟩ : ∃ W0, (w.alloc (.cells #[.slice ao l.length cap, .int .i64 16, .func (.func 57) #[] #[], .func (.func 58) #[] #[], .func (.func 59) #[] #[]] 78)).alloc (.cells #[.string y.1, .string y.2] 38) = W0 := ⟨_, rfl⟩
  have hB0 : Below w.heap.size w W0 := by rw [← hW0]; exact ((Below.refl _ w).alloc (Nat.le_refl _) _).alloc (by simp) _
  have hz0 : w.heap.size + 2 ≤ W0.heap.size := by rw [← hW0]; simp
  have hbx : Box5 W0 w.heap.size (.slice ao l.length cap) (.int .i64 16) (.func (.func 57) #[] #[]) (.func (.func 58) #[] #[]) (.func (.func 59) #[] #[]) := by
    rw [← hW0]; exact box5_below (box5_row (heap_alloc_new w _)) ((Below.refl (w.heap.size + 1) _).alloc (by simp) _) (by omega)
  have hy0 : W0.cell? ⟨w.heap.size + 1, 0, none⟩ = some (.string y.1) := by
    rw [← hW0, cell_of_row _ _ _ _ _ _ (heap_alloc2_new w _ _)]; rfl
  have hy1 : W0.cell? ⟨w.heap.size + 1, 1, none⟩ = some (.string y.2) := by
    rw [← hW0, cell_of_row _ _ _ _ _ _ (heap_alloc2_new w _ _)]; rfl
  have e0 := hbx.c0
  have e1 := hbx.c1
  have e2 := hbx.c2
  have e3 := hbx.c3
  have e4 := hbx.c4
  go_enter Try.func41, Try.ntmps41
  go_wp2_with fail
  clear hW0 e0 e1 e2 e3 e4
  refine (prOk_any _ l _ (readsR_kept hr hB0) hlen).mono ?_
  rintro e w1 ⟨rfl, hb1⟩
  have hz1 := hb1.size
  have hB1 := hB0.trans (hb1.mono hB0.size)
  have hbx1 := box5_below hbx hb1 (by omega)
  have hk0 := hb1.cell (p := ⟨w.heap.size + 1, 0, none⟩) (by show w.heap.size + 1 < _; omega) |>.trans hy0
  have hk1 := hb1.cell (p := ⟨w.heap.size + 1, 1, none⟩) (by show w.heap.size + 1 < _; omega) |>.trans hy1
  clear hbx hB0 hb1 hy0 hy1
  cases hok : prOkB l with
  | false =>
    have HR : Hid (prPtR l y = []) := by show _ = _; unfold prPtR; rw [hok]; rfl
    have HB : Hid (prPtB l y = false) := by show _ = _; unfold prPtB; rw [hok]; rfl
    have HF : Hid (prPtF l y = false) := by show _ = _; unfold prPtF prPtB; rw [hok]; rfl
    clear hok
    go_wp2_with fail
    go_ret3
    exact ⟨_, by rw [HB.out, HF.out]; rfl, by rw [HR.out]; exact World.ownsRow_nil _ _ _ _, hB1⟩
  | true =>
    have e0 := hbx1.c0
    have e1 := hbx1.c1
    have e2 := hbx1.c2
    have e3 := hbx1.c3
    have e4 := hbx1.c4
    go_wp2_with fail
    refine (prWith_any _ l y _ (readsR_kept hr hB1) hlen).mono ?_
    rintro e w2 ⟨x, rfl, ho2, hb2⟩
    obtain ⟨N, hN⟩ : ∃ N, prNew l y = N := ⟨_, rfl⟩
    have hNl : N.length ≤ 1048576 := by
      have h16 : l.length ≤ 16 := by unfold prOkB at hok; simp only [Bool.and_eq_true, decide_eq_true_eq] at hok; exact hok.1
      rw [← hN]; unfold prNew; rw [prIns_len]; have := prWo_len l y.1; omega
    have hn' : prIns (prWo l y.1) y = N := hN
    rw [hn'] at ho2
    have HN : Hid (prNew l y = N) := hN
    clear hN hn'
    have hz2 := hb2.size
    have hB2 := hB1.trans (hb2.mono hB1.size)
    have hbx2 := box5_below hbx1 hb2 (by omega)
    obtain ⟨ax, cx, hxv⟩ := readsR_shape (ownsR_reads prC_len ho2)
    subst hxv
    clear hbx1 hB1 hb2 e0 e1 e2 e3 e4 hk0 hk1
    obtain ⟨W3, hW3⟩ : ∃ W3, w2.alloc (.cells #[.slice ax N.length cx, .int .i64 16, .func (.func 57) #[] #[], .func (.func 58) #[] #[], .func (.func 59) #[] #[]] 78) = W3 := ⟨_, rfl⟩
    have hbn : Box5 W3 w2.heap.size (.slice ax N.length cx) (.int .i64 16) (.func (.func 57) #[] #[]) (.func (.func 58) #[] #[]) (.func (.func 59) #[] #[]) := by
      rw [← hW3]; exact box5_row (heap_alloc_new w2 _)
    have hb3 : Below w2.heap.size w2 W3 := by rw [← hW3]; exact (Below.refl _ _).alloc (Nat.le_refl _) _
    have hz3 : w2.heap.size + 1 ≤ W3.heap.size := by rw [← hW3]; simp
    have ho3 := ownsR_kept ho2 hb3
    have hB3 := hB2.trans (hb3.mono hB2.size)
    have hbx3 := box5_below hbx2 hb3 (by omega)
    have e0 := hbn.c0
    have e1 := hbn.c1
    have e2 := hbn.c2
    have e3 := hbn.c3
    have e4 := hbn.c4
    go_wp2_with fail
    clear hW3 e0 e1 e2 e3 e4 ho2 hB2 hbx2 hb3
    refine (prOk_any _ N _ (ownsR_reads prC_len ho3) (by omega)).mono ?_
    rintro e w4 ⟨rfl, hb4⟩
    have hz4 := hb4.size
    have ho4 := ownsR_kept ho3 hb4
    have hB4 := hB3.trans (hb4.mono hB3.size)
    have hbx4 := box5_below hbx3 hb4 (by omega)
    have hbn4 := box5_below hbn hb4 (by omega)
    clear ho3 hB3 hbx3 hbn hb4
    cases hkN : prOkB N with
    | false =>
      have HR : Hid (prPtR l y = l) := by show _ = _; unfold prPtR; rw [hok, HN.out, hkN]; rfl
      have HB : Hid (prPtB l y = false) := by show _ = _; unfold prPtB; rw [hok, HN.out, hkN]; rfl
      have HF : Hid (prPtF l y = false) := by show _ = _; unfold prPtF prPtB; rw [hok, HN.out, hkN]; rfl
      clear hkN hok
      have e0 := hbx4.c0
      go_wp2_with fail
      refine (prClone_any _ l _ (readsR_kept hr hB4) hlen).mono ?_
      rintro e w5 ⟨x5, rfl, ho5, hb5⟩
      have hB5 := hB4.trans (hb5.mono hB4.size)
      have ho6 := ownsR_base ho5 hB4.size
      clear ho5 hb5 hB4 e0
      go_wp2_with fail
      go_ret3
      exact ⟨_, by rw [HB.out, HF.out]; rfl, by rw [HR.out]; exact ho6, hB5⟩
    | true =>
      have HR : Hid (prPtR l y = N) := by show _ = _; unfold prPtR; rw [hok, HN.out, hkN]; rfl
      have HB : Hid (prPtB l y = true) := by show _ = _; unfold prPtB; rw [hok, HN.out, hkN]; rfl
      have HF : Hid (prPtF l y = decide (l.length < N.length)) := by show _ = _; unfold prPtF prPtB; rw [hok, HN.out, hkN]; rfl
      clear hkN hok
      have e0 := hbx4.c0
      have e1 := hbn4.c0
      have ho6 := ownsR_base ho4 (show w.heap.size ≤ w1.heap.size by omega)
      go_wp2_with fail
      go_quiet (fail)
      go_wp2_with fail
      go_ret3
      exact ⟨_, by rw [HB.out, HF.out]; rfl, by rw [HR.out]; exact ho6, below_drewPPr hB4 _⟩

set_option maxHeartbeats 4000000 in
theorem implFieldsPut_any (v : Value) (l : List (ByteArray × ByteArray)) (y : (ByteArray × ByteArray)) (w : World) (hr : PrReads w v l) (hlen : l.length ≤ 1048576) :
    Calls Try.prog 15 #[v, .agg #[.string y.1, .string y.2]] w fun e w' => ∃ x, e = .returned (.tuple #[x, .bool (prPtF l y), .bool (prPtB l y)]) ∧ PrOwns w' w.heap.size x (prPtR l y) ∧ Below w.heap.size w w' := by
  obtain ⟨ao, cap, rfl⟩ := readsR_shape hr
  obtain ⟨W0, hW0⟩ : ∃ W0, w.alloc (.cells #[.string y.1, .string y.2] 38) = W0 := ⟨_, rfl⟩
  have hB0 : Below w.heap.size w W0 := by rw [← hW0]; exact (Below.refl _ w).alloc (Nat.le_refl _) _
  have hz0 : w.heap.size + 1 ≤ W0.heap.size := by rw [← hW0]; simp
  have hy0 : W0.cell? ⟨w.heap.size, 0, none⟩ = some (.string y.1) := by
    rw [← hW0, cell_of_row _ _ _ _ _ _ (heap_alloc_new w _)]; rfl
  have hy1 : W0.cell? ⟨w.heap.size, 1, none⟩ = some (.string y.2) := by
    rw [← hW0, cell_of_row _ _ _ _ _ _ (heap_alloc_new w _)]; rfl
  go_enter Try.func15, Try.ntmps15
  go_wp2_with fail
  clear hW0
  refine wp_region_held_drew (S := (fun w' => (w'.cell? ⟨w.heap.size, 0, none⟩ = some (.string y.1) ∧ w'.cell? ⟨w.heap.size, 1, none⟩ = some (.string y.2)) ∧ Below W0.heap.size W0 w')) (by kernel_rfl) (by exact ⟨⟨hy0, hy1⟩, (Below.refl _ W0).drew⟩) (fun hHeld => ?_)
  refine takeH (i := 0) (d := (some 7)) (v := ?_) rfl rfl (by kernel_rfl) (by kernel_rfl) (by kernel_rfl) (fun _ _ _ h => h) (by kernel_rfl) ?_ (by assumption) ?_
  rotate_left
  · (intro w hSw; (try dsimp only at hSw); go_simp; try with_reducible rfl)
  try simp only [Act.put, List.setIfInBounds_toArray, List.set_cons_succ, List.set_cons_zero]
  refine takeH (i := 2) (d := (some 9)) (v := ?_) rfl rfl (by kernel_rfl) (by kernel_rfl) (by kernel_rfl) (fun _ _ _ h => h) (by kernel_rfl) ?_ (by assumption) ?_
  rotate_left
  · (intro w hSw; (try dsimp only at hSw); go_simp; try with_reducible rfl)
  try simp only [Act.put, List.setIfInBounds_toArray, List.set_cons_succ, List.set_cons_zero]
  refine wpAnyH_ready (rs := [1]) (by kernel_rfl) (by simp) ?_
  refine AllReadyH.cons rfl (fun K hK => ?_) AllReadyH.nil
  go_simp
  refine (prTable_any _ _ _ _).mono ?_; rintro e w1 ⟨rfl, hb1⟩; have hb1 : Below W0.heap.size W0 w1 := (Below.refl W0.heap.size W0).drew.trans hb1; have hz1 := hb1.size; have hB1 := hB0.trans (hb1.mono hB0.size)
  refine hK.out _ _ ?_ (fun hHeld => ?_)
  · exact ⟨⟨(hb1.cell (p := ⟨w.heap.size, 0, none⟩) (by show w.heap.size < _; omega)).trans hy0, (hb1.cell (p := ⟨w.heap.size, 1, none⟩) (by show w.heap.size < _; omega)).trans hy1⟩, hb1⟩
  clear hK K
  try simp only [Act.put, List.setIfInBounds_toArray, List.set_cons_succ, List.set_cons_zero]
  refine wpAnyH_ready (rs := [3]) (by kernel_rfl) (by simp) ?_
  refine AllReadyH.cons rfl (fun K hK => ?_) AllReadyH.nil
  go_simp
  refine (prPutW_any _ l y _ (readsR_kept hr hB1) hlen).mono ?_; rintro e w2 ⟨x, rfl, ho2, hb2⟩; have hb12 := hb1.trans (hb2.mono hz1)
  refine hK.out _ _ ?_ (fun hHeld => ?_)
  · exact ⟨⟨(hb12.cell (p := ⟨w.heap.size, 0, none⟩) (by show w.heap.size < _; omega)).trans hy0, (hb12.cell (p := ⟨w.heap.size, 1, none⟩) (by show w.heap.size < _; omega)).trans hy1⟩, hb12⟩
  clear hK K
  try simp only [Act.put, List.setIfInBounds_toArray, List.set_cons_succ, List.set_cons_zero]
  refine takeH (i := 4) (d := (some 11)) (v := ?_) rfl rfl (by kernel_rfl) (by kernel_rfl) (by kernel_rfl) (fun _ _ _ h => h) (by kernel_rfl) ?_ (by assumption) ?_
  rotate_left
  · (intro w hSw; (try dsimp only at hSw); go_simp; try with_reducible rfl)
  try simp only [Act.put, List.setIfInBounds_toArray, List.set_cons_succ, List.set_cons_zero]
  refine takeH (i := 5) (d := (some 12)) (v := ?_) rfl rfl (by kernel_rfl) (by kernel_rfl) (by kernel_rfl) (fun _ _ _ h => h) (by kernel_rfl) ?_ (by assumption) ?_
  rotate_left
  · (intro w hSw; (try dsimp only at hSw); go_simp; try with_reducible rfl)
  try simp only [Act.put, List.setIfInBounds_toArray, List.set_cons_succ, List.set_cons_zero]
  refine takeH (i := 6) (d := (some 13)) (v := ?_) rfl rfl (by kernel_rfl) (by kernel_rfl) (by kernel_rfl) (fun _ _ _ h => h) (by kernel_rfl) ?_ (by assumption) ?_
  rotate_left
  · (intro w hSw; (try dsimp only at hSw); go_simp; try with_reducible rfl)
  try simp only [Act.put, List.setIfInBounds_toArray, List.set_cons_succ, List.set_cons_zero]
  refine takeH (i := 7) (d := (some 4)) (v := ?_) rfl rfl (by kernel_rfl) (by kernel_rfl) (by kernel_rfl) (fun _ _ _ h => h) (by kernel_rfl) ?_ (by assumption) ?_
  rotate_left
  · (intro w hSw; (try dsimp only at hSw); go_simp; try with_reducible rfl)
  try simp only [Act.put, List.setIfInBounds_toArray, List.set_cons_succ, List.set_cons_zero]
  refine takeH (i := 8) (d := (some 5)) (v := ?_) rfl rfl (by kernel_rfl) (by kernel_rfl) (by kernel_rfl) (fun _ _ _ h => h) (by kernel_rfl) ?_ (by assumption) ?_
  rotate_left
  · (intro w hSw; (try dsimp only at hSw); go_simp; try with_reducible rfl)
  try simp only [Act.put, List.setIfInBounds_toArray, List.set_cons_succ, List.set_cons_zero]
  refine takeH (i := 9) (d := (some 6)) (v := ?_) rfl rfl (by kernel_rfl) (by kernel_rfl) (by kernel_rfl) (fun _ _ _ h => h) (by kernel_rfl) ?_ (by assumption) ?_
  rotate_left
  · (intro w hSw; (try dsimp only at hSw); go_simp; try with_reducible rfl)
  try simp only [Act.put, List.setIfInBounds_toArray, List.set_cons_succ, List.set_cons_zero]
  refine wpAnyH_done (by kernel_rfl) ?_ _
  have hB2 := hB1.trans (hb2.mono hB1.size)
  have ho3 := ownsR_base ho2 hB1.size
  clear hb1 hb2 ho2 hHeld hb12 hB1 hB0
  go_wp2_with fail
  go_ret3
  exact ⟨_, rfl, ho3, hB2⟩
end Go.Proofs.Ytfnbjjcelncliaa
