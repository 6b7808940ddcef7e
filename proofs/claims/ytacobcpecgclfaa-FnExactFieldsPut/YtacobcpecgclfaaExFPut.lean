/- Proved: at every list of fields, and any field, FieldsPut answers as its model, field by field; it writes into no argument; its answer owns its memory, behind another call too. No condition. -/
import Derived.Test.YtacobcpecgclfaaPrR
import Derived.Test.YtacobcpecgclfaaPrWk
import Derived.Test.YtacobcpecgclfaaPrM
import Derived.OpenShut
import Derived.ShutString
import Derived.ChangeOld
import Derived.Below
import Derived.Deep.RegionWith
namespace Go.Proofs.Ytacobcpecgclfaa.fnExactFieldsPut
open Go.ChangeShapes Go.WideShapes Go.ChangeAt Go.RowKit
open Go.ChangeMaps (open_string shut_string)
set_option linter.unusedVariables false

theorem own : ownKnob Try.prog.godebug = none := by kernel_rfl
theorem laidOut : laidOutB Try.prog = true := by kernel_rfl
theorem ptB (l : List (ByteArray × ByteArray)) (y : ByteArray × ByteArray) : prPtB l y = prPutB l y := by
  unfold prPtB prPutB
  cases h : prOkB l with
  | false => rfl
  | true => rw [new_put y h]
theorem ptR (l : List (ByteArray × ByteArray)) (y : ByteArray × ByteArray) : prPtR l y = prPutR l y := by
  unfold prPtR prPutR
  cases h : prOkB l with
  | false => rfl
  | true => rw [new_put y h]
theorem ptF (l : List (ByteArray × ByteArray)) (y : ByteArray × ByteArray) : prPtF l y = prPutF l y := by
  unfold prPtF prPutF
  rw [ptB]
  cases h : prOkB l with
  | false => unfold prPutB; rw [h]; rfl
  | true =>
    have e : decide (l.length < (prNew l y).length) = !prThere l y.1 := by
      rw [new_put y h]; unfold prPutL
      have := prPos_le l y.1
      cases prThere l y.1 <;> simp; omega
    rw [e]
theorem res_len0 (l : List (ByteArray × ByteArray)) (y : ByteArray × ByteArray) (h : l.length ≤ 1048576) : (prPutR l y).length ≤ 1048576 := by
  unfold prPutR; split
  · next h1 =>
    split
    · have h16 : l.length ≤ 16 := by unfold prOkB at h1; simp only [Bool.and_eq_true, decide_eq_true_eq] at h1; exact h1.1
      unfold prPutL; have := prPos_le l y.1
      split
      · rw [List.length_set]; omega
      · simp; omega
    · exact h
  · simp
theorem spec_any (v : Value) (l : List (ByteArray × ByteArray)) (y : ByteArray × ByteArray) (w : World) (hr : PrReads w v l) (hlen : l.length ≤ 1048576) :
    Calls Try.prog 16 #[v, .agg #[.string y.1, .string y.2]] w fun e w' => ∃ x, e = .returned (.tuple #[x, .bool (prPutF l y), .bool (prPutB l y)]) ∧ PrOwn w' w.heap.size w'.heap.size x (prPutR l y) ∧ Below w.heap.size w w' :=
  (specFieldsPut_any v l y w hr hlen).mono fun _ _ ⟨x, h, ho, hb⟩ => ⟨x, h, ownR_of ho, hb⟩
theorem impl_any (v : Value) (l : List (ByteArray × ByteArray)) (y : ByteArray × ByteArray) (w : World) (hr : PrReads w v l) (hlen : l.length ≤ 1048576) :
    Calls Try.prog 19 #[v, .agg #[.string y.1, .string y.2]] w fun e w' => ∃ x, e = .returned (.tuple #[x, .bool (prPutF l y), .bool (prPutB l y)]) ∧ PrOwn w' w.heap.size w'.heap.size x (prPutR l y) ∧ Below w.heap.size w w' := by
  have := implFieldsPut_any v l y w hr hlen
  rw [ptF, ptB, ptR] at this
  exact this.mono fun _ _ ⟨x, h, ho, hb⟩ => ⟨x, h, ownR_of ho, hb⟩

set_option maxHeartbeats 8000000 in
theorem walk (v0 : Value) (l0 : List (ByteArray × ByteArray)) (e1 : (ByteArray × ByteArray)) (w : World) (hr0 : PrReads w v0 l0) (hs0 : prFit l0) (hlen0 : l0.length ≤ maxLen) (hs1 : prFit [e1]) :
    Calls Try.prog 4 #[v0, .agg #[.string e1.1, .string e1.2]] w fun e w' => e = .returned (.bool true) ∧ Below w.heap.size w w' := by
  obtain ⟨W0, hW0e⟩ : ∃ W0, w.alloc (.cells #[.string e1.1, .string e1.2] 38) = W0 := ⟨_, rfl⟩
  have hBW : Below w.heap.size w W0 := by rw [← hW0e]; exact (Below.refl _ w).alloc (Nat.le_refl _) _
  have hBl : w.heap.size < W0.heap.size := by rw [← hW0e]; simp
  have c0 : W0.cell? ⟨w.heap.size, 0, none⟩ = some (.string e1.1) := by rw [← hW0e, cell_of_row _ _ _ _ _ _ (heap_alloc_new w _)]; rfl
  have c1 : W0.cell? ⟨w.heap.size, 1, none⟩ = some (.string e1.2) := by rw [← hW0e, cell_of_row _ _ _ _ _ _ (heap_alloc_new w _)]; rfl
  have hr0 := readsR_kept hr0 hBW
  go_enter Try.func4, Try.ntmps4
  have HB0 := Below.refl W0.heap.size W0
  have hW0 : W0.heap.size ≤ W0.heap.size := Nat.le_refl _
  go_wp2_with fail
  clear hW0e
  refine (szPairS_any v0 l0 _ _ (readsR_kept hr0 HB0) (by omega) (by omega) hs0 hlen0).mono ?_
  rintro e w1 ⟨rfl, hb1⟩
  have HB1 := HB0.trans (hb1.mono hW0)
  have hW1 := HB1.size
  have hM1 := hb1.size
  clear hb1 HB0
  have k0_1 := HB1.cell (p := ⟨w.heap.size, 0, none⟩) hBl |>.trans c0
  have k1_1 := HB1.cell (p := ⟨w.heap.size, 1, none⟩) hBl |>.trans c1
  rcases Int.lt_or_le (szW prW l0 1048576) 0 with hz0 | hz0
  ·
    go_wp2_with fail
    go_ret
    exact ⟨rfl, hBW.trans (HB1.mono hBW.size)⟩
  ·
    have hq0 := szW_len prW_pos hz0
    have hl0 : l0.length ≤ 1048576 := by have := hq0.1; omega
    have hp0 := hq0.2.1
    go_wp2_with fail
    refine (szPair_any e1.1 e1.2 _ _ (by omega) (by omega) (hs1 _ (by simp)).1 (hs1 _ (by simp)).2).mono ?_
    rintro e w2 ⟨rfl, hb2⟩
    have HB2 := HB1.trans (hb2.mono hW1)
    have hW2 := HB2.size
    have hM2 := hb2.size
    clear hb2 HB1
    clear k0_1 k1_1
    have k0_2 := HB2.cell (p := ⟨w.heap.size, 0, none⟩) hBl |>.trans c0
    have k1_2 := HB2.cell (p := ⟨w.heap.size, 1, none⟩) hBl |>.trans c1
    rcases Int.lt_or_le (szOne prW (e1.1, e1.2) (szW prW l0 1048576)) 0 with hz1 | hz1
    ·
      go_wp2_with fail
      go_ret
      exact ⟨rfl, hBW.trans (HB2.mono hBW.size)⟩
    ·
      have hp1 : szOne prW (e1.1, e1.2) (szW prW l0 1048576) ≤ 1048576 := by have := pr_szOne_le (x := (e1.1, e1.2)) hz1; omega
      go_wp2_with fail
      have hR0 : (prPutR l0 e1).length ≤ 1048576 := res_len0 l0 e1 hl0
      refine wp_region_held_drew (S := (fun w' => w'.cell? ⟨w.heap.size, 0, none⟩ = some (.string e1.1) ∧ w'.cell? ⟨w.heap.size, 1, none⟩ = some (.string e1.2))) (by kernel_rfl) (by exact ⟨k0_2, k1_2⟩) (fun hHeld => ?_)
      refine takeH (i := 0) (d := (some 30)) (v := ?_) rfl rfl (by kernel_rfl) (by kernel_rfl) (by kernel_rfl) (fun _ _ _ h => h) (by kernel_rfl) ?_ (by assumption) ?_
      rotate_left
      · (intro w hSw; (try dsimp only at hSw); go_simp; try with_reducible rfl)
      try simp only [Act.put, List.setIfInBounds_toArray, List.set_cons_succ, List.set_cons_zero]
      refine takeH (i := 2) (d := (some 32)) (v := ?_) rfl rfl (by kernel_rfl) (by kernel_rfl) (by kernel_rfl) (fun _ _ _ h => h) (by kernel_rfl) ?_ (by assumption) ?_
      rotate_left
      · (intro w hSw; (try dsimp only at hSw); go_simp; try with_reducible rfl)
      try simp only [Act.put, List.setIfInBounds_toArray, List.set_cons_succ, List.set_cons_zero]
      refine wpAnyH_ready (rs := [1]) (by kernel_rfl) (by simp) ?_
      refine AllReadyH.cons rfl (fun K hK => ?_) AllReadyH.nil
      go_simp
      refine (toPairS_own v0 l0 _ (readsR_kept hr0 HB2.drew) hl0).mono ?_; rintro e w3 ⟨p0, rfl, op0_3, hb3⟩; have op0_3 : PrOwn w3 w2.heap.size w3.heap.size p0 l0 := op0_3; have hb3 : Below w2.heap.size w2 w3 := (Below.refl w2.heap.size w2).drew.trans hb3
      refine hK.out _ _ ?_ (fun hHeld => ?_)
      · exact ⟨((HB2.trans (hb3.mono hW2)).cell (p := ⟨w.heap.size, 0, none⟩) hBl).trans c0, ((HB2.trans (hb3.mono hW2)).cell (p := ⟨w.heap.size, 1, none⟩) hBl).trans c1⟩
      clear hK K
      try simp only [Act.put, List.setIfInBounds_toArray, List.set_cons_succ, List.set_cons_zero]
      clear hHeld
      have HB3 := HB2.trans (hb3.mono hW2)
      have hW3 := HB3.size
      have hM3 := hb3.size
      clear hb3 HB2
      clear k0_2 k1_2
      have k0_3 := HB3.cell (p := ⟨w.heap.size, 0, none⟩) hBl |>.trans c0
      have k1_3 := HB3.cell (p := ⟨w.heap.size, 1, none⟩) hBl |>.trans c1
      refine wpAnyH_ready (rs := [3]) (by kernel_rfl) (by simp) ?_
      refine AllReadyH.cons rfl (fun K hK => ?_) AllReadyH.nil
      go_simp
      refine (toPair_any e1.1 e1.2 _).mono ?_; rintro e w4 ⟨rfl, hb4⟩
      refine hK.out _ _ ?_ (fun hHeld => ?_)
      · exact ⟨((HB3.trans (hb4.mono hW3)).cell (p := ⟨w.heap.size, 0, none⟩) hBl).trans c0, ((HB3.trans (hb4.mono hW3)).cell (p := ⟨w.heap.size, 1, none⟩) hBl).trans c1⟩
      clear hK K
      try simp only [Act.put, List.setIfInBounds_toArray, List.set_cons_succ, List.set_cons_zero]
      clear hHeld
      have HB4 := HB3.trans (hb4.mono hW3)
      have hW4 := HB4.size
      have hM4 := hb4.size
      have op0_4 := ownR_kept op0_3 hb4
      clear hb4 HB3 op0_3
      clear k0_3 k1_3
      have k0_4 := HB4.cell (p := ⟨w.heap.size, 0, none⟩) hBl |>.trans c0
      have k1_4 := HB4.cell (p := ⟨w.heap.size, 1, none⟩) hBl |>.trans c1
      refine wpAnyH_ready (rs := [4]) (by kernel_rfl) (by simp) ?_
      refine AllReadyH.cons rfl (fun K hK => ?_) AllReadyH.nil
      go_simp
      refine (spec_any p0 l0 e1 _ (ownR_reads prC_len op0_4) hl0 ).mono ?_; rintro e w5 ⟨s0, rfl, os0_5, hb5⟩
      refine hK.out _ _ ?_ (fun hHeld => ?_)
      · exact ⟨((HB4.trans (hb5.mono hW4)).cell (p := ⟨w.heap.size, 0, none⟩) hBl).trans c0, ((HB4.trans (hb5.mono hW4)).cell (p := ⟨w.heap.size, 1, none⟩) hBl).trans c1⟩
      clear hK K
      try simp only [Act.put, List.setIfInBounds_toArray, List.set_cons_succ, List.set_cons_zero]
      refine takeH (i := 5) (d := (some 29)) (v := ?_) rfl rfl (by kernel_rfl) (by kernel_rfl) (by kernel_rfl) (fun _ _ _ h => h) (by kernel_rfl) ?_ (by assumption) ?_
      rotate_left
      · (intro w hSw; (try dsimp only at hSw); go_simp; try with_reducible rfl)
      try simp only [Act.put, List.setIfInBounds_toArray, List.set_cons_succ, List.set_cons_zero]
      refine takeH (i := 6) (d := (some 35)) (v := ?_) rfl rfl (by kernel_rfl) (by kernel_rfl) (by kernel_rfl) (fun _ _ _ h => h) (by kernel_rfl) ?_ (by assumption) ?_
      rotate_left
      · (intro w hSw; (try dsimp only at hSw); go_simp; try with_reducible rfl)
      try simp only [Act.put, List.setIfInBounds_toArray, List.set_cons_succ, List.set_cons_zero]
      refine takeH (i := 7) (d := (some 36)) (v := ?_) rfl rfl (by kernel_rfl) (by kernel_rfl) (by kernel_rfl) (fun _ _ _ h => h) (by kernel_rfl) ?_ (by assumption) ?_
      rotate_left
      · (intro w hSw; (try dsimp only at hSw); go_simp; try with_reducible rfl)
      try simp only [Act.put, List.setIfInBounds_toArray, List.set_cons_succ, List.set_cons_zero]
      refine takeH (i := 8) (d := (some 37)) (v := ?_) rfl rfl (by kernel_rfl) (by kernel_rfl) (by kernel_rfl) (fun _ _ _ h => h) (by kernel_rfl) ?_ (by assumption) ?_
      rotate_left
      · (intro w hSw; (try dsimp only at hSw); go_simp; try with_reducible rfl)
      try simp only [Act.put, List.setIfInBounds_toArray, List.set_cons_succ, List.set_cons_zero]
      refine takeH (i := 9) (d := (some 6)) (v := ?_) rfl rfl (by kernel_rfl) (by kernel_rfl) (by kernel_rfl) (fun _ _ _ h => h) (by kernel_rfl) ?_ (by assumption) ?_
      rotate_left
      · (intro w hSw; (try dsimp only at hSw); go_simp; try with_reducible rfl)
      try simp only [Act.put, List.setIfInBounds_toArray, List.set_cons_succ, List.set_cons_zero]
      refine takeH (i := 10) (d := (some 7)) (v := ?_) rfl rfl (by kernel_rfl) (by kernel_rfl) (by kernel_rfl) (fun _ _ _ h => h) (by kernel_rfl) ?_ (by assumption) ?_
      rotate_left
      · (intro w hSw; (try dsimp only at hSw); go_simp; try with_reducible rfl)
      try simp only [Act.put, List.setIfInBounds_toArray, List.set_cons_succ, List.set_cons_zero]
      refine takeH (i := 11) (d := (some 8)) (v := ?_) rfl rfl (by kernel_rfl) (by kernel_rfl) (by kernel_rfl) (fun _ _ _ h => h) (by kernel_rfl) ?_ (by assumption) ?_
      rotate_left
      · (intro w hSw; (try dsimp only at hSw); go_simp; try with_reducible rfl)
      try simp only [Act.put, List.setIfInBounds_toArray, List.set_cons_succ, List.set_cons_zero]
      refine wpAnyH_done (by kernel_rfl) ?_ _
      clear hHeld
      have HB5 := HB4.trans (hb5.mono hW4)
      have hW5 := HB5.size
      have hM5 := hb5.size
      have op0_5 := ownR_kept op0_4 hb5
      clear hb5 HB4 op0_4
      clear k0_4 k1_4
      have k0_5 := HB5.cell (p := ⟨w.heap.size, 0, none⟩) hBl |>.trans c0
      have k1_5 := HB5.cell (p := ⟨w.heap.size, 1, none⟩) hBl |>.trans c1
      go_wp2_with fail
      clear op0_5
      refine (toPairS_own v0 l0 _ (readsR_kept hr0 HB5) hl0).mono ?_
      rintro e w6 ⟨x0, rfl, ox0_6, hb6⟩
      have HB6 := HB5.trans (hb6.mono hW5)
      have hW6 := HB6.size
      have hM6 := hb6.size
      have os0_6 := ownR_kept os0_5 hb6
      clear hb6 HB5 os0_5
      clear k0_5 k1_5
      have k0_6 := HB6.cell (p := ⟨w.heap.size, 0, none⟩) hBl |>.trans c0
      have k1_6 := HB6.cell (p := ⟨w.heap.size, 1, none⟩) hBl |>.trans c1
      go_wp2_with fail
      refine (toPair_any e1.1 e1.2 _).mono ?_
      rintro e w7 ⟨rfl, hb7⟩
      have HB7 := HB6.trans (hb7.mono hW6)
      have hW7 := HB7.size
      have hM7 := hb7.size
      have os0_7 := ownR_kept os0_6 hb7
      have ox0_7 := ownR_kept ox0_6 hb7
      clear hb7 HB6 os0_6 ox0_6
      clear k0_6 k1_6
      have k0_7 := HB7.cell (p := ⟨w.heap.size, 0, none⟩) hBl |>.trans c0
      have k1_7 := HB7.cell (p := ⟨w.heap.size, 1, none⟩) hBl |>.trans c1
      go_wp2_with fail
      refine (impl_any x0 l0 e1 _ (ownR_reads prC_len ox0_7) hl0 ).mono ?_
      rintro e w8 ⟨g0, rfl, og0_8, hb8⟩
      have HB8 := HB7.trans (hb8.mono hW7)
      have hW8 := HB8.size
      have hM8 := hb8.size
      have os0_8 := ownR_kept os0_7 hb8
      have ox0_8 := ownR_kept ox0_7 hb8
      clear hb8 HB7 os0_7 ox0_7
      clear k0_7 k1_7
      have k0_8 := HB8.cell (p := ⟨w.heap.size, 0, none⟩) hBl |>.trans c0
      have k1_8 := HB8.cell (p := ⟨w.heap.size, 1, none⟩) hBl |>.trans c1
      go_wp2_with fail
      refine (eqPairS_true g0 s0 (prPutR l0 e1) _ (ownR_reads prC_len og0_8) (ownR_reads prC_len os0_8) hR0).mono ?_
      rintro e w9 ⟨rfl, hb9⟩
      have HB9 := HB8.trans (hb9.mono hW8)
      have hW9 := HB9.size
      have hM9 := hb9.size
      have os0_9 := ownR_kept os0_8 hb9
      have ox0_9 := ownR_kept ox0_8 hb9
      have og0_9 := ownR_kept og0_8 hb9
      clear hb9 HB8 os0_8 ox0_8 og0_8
      clear k0_8 k1_8
      have k0_9 := HB9.cell (p := ⟨w.heap.size, 0, none⟩) hBl |>.trans c0
      have k1_9 := HB9.cell (p := ⟨w.heap.size, 1, none⟩) hBl |>.trans c1
      go_wp2_with fail
      refine (toPairS_own v0 l0 _ (readsR_kept hr0 HB9) hl0).mono ?_
      rintro e w10 ⟨y0, rfl, oy0_10, hb10⟩
      have HB10 := HB9.trans (hb10.mono hW9)
      have hW10 := HB10.size
      have hM10 := hb10.size
      have os0_10 := ownR_kept os0_9 hb10
      have ox0_10 := ownR_kept ox0_9 hb10
      have og0_10 := ownR_kept og0_9 hb10
      clear hb10 HB9 os0_9 ox0_9 og0_9
      clear k0_9 k1_9
      have k0_10 := HB10.cell (p := ⟨w.heap.size, 0, none⟩) hBl |>.trans c0
      have k1_10 := HB10.cell (p := ⟨w.heap.size, 1, none⟩) hBl |>.trans c1
      go_wp2_with fail
      refine (eqPairS_true x0 y0 (l0) _ (ownR_reads prC_len ox0_10) (ownR_reads prC_len oy0_10) hl0).mono ?_
      rintro e w11 ⟨rfl, hb11⟩
      have HB11 := HB10.trans (hb11.mono hW10)
      have hW11 := HB11.size
      have hM11 := hb11.size
      have os0_11 := ownR_kept os0_10 hb11
      have ox0_11 := ownR_kept ox0_10 hb11
      have og0_11 := ownR_kept og0_10 hb11
      have oy0_11 := ownR_kept oy0_10 hb11
      clear hb11 HB10 os0_10 ox0_10 og0_10 oy0_10
      clear k0_10 k1_10
      have k0_11 := HB11.cell (p := ⟨w.heap.size, 0, none⟩) hBl |>.trans c0
      have k1_11 := HB11.cell (p := ⟨w.heap.size, 1, none⟩) hBl |>.trans c1
      go_wp2_with fail
      clear oy0_11
      refine (markPair_own x0 (l0) _ _ 1 _ ox0_11 (by omega) (by omega) hl0).mono ?_
      rintro e w12 ⟨rfl, ox0_12, hb12⟩
      have HB12 := below_ownR HB11 hW11 ox0_11 (by omega) hb12
      have hW12 := HB12.size
      have hM12 := hb12.size
      have os0_12 := ownR_apart os0_11 ox0_11 hb12 (by omega)
      have og0_12 := ownR_apart og0_11 ox0_11 hb12 (by omega)
      clear hb12 HB11 os0_11 og0_11 ox0_11
      clear k0_11 k1_11
      have k0_12 := HB12.cell (p := ⟨w.heap.size, 0, none⟩) hBl |>.trans c0
      have k1_12 := HB12.cell (p := ⟨w.heap.size, 1, none⟩) hBl |>.trans c1
      go_wp2_with fail
      clear ox0_12
      refine (eqPairS_true g0 s0 (prPutR l0 e1) _ (ownR_reads prC_len og0_12) (ownR_reads prC_len os0_12) hR0).mono ?_
      rintro e w13 ⟨rfl, hb13⟩
      have HB13 := HB12.trans (hb13.mono hW12)
      have hW13 := HB13.size
      have hM13 := hb13.size
      have os0_13 := ownR_kept os0_12 hb13
      have og0_13 := ownR_kept og0_12 hb13
      clear hb13 HB12 os0_12 og0_12
      clear k0_12 k1_12
      have k0_13 := HB13.cell (p := ⟨w.heap.size, 0, none⟩) hBl |>.trans c0
      have k1_13 := HB13.cell (p := ⟨w.heap.size, 1, none⟩) hBl |>.trans c1
      go_wp2_with fail
      refine (markPair_own g0 (prPutR l0 e1) _ _ 1 _ og0_13 (by omega) (by omega) hR0).mono ?_
      rintro e w14 ⟨rfl, og0_14, hb14⟩
      have HB14 := below_ownR HB13 hW13 og0_13 (by omega) hb14
      have hW14 := HB14.size
      have hM14 := hb14.size
      have os0_14 := ownR_apart os0_13 og0_13 hb14 (by omega)
      clear hb14 HB13 os0_13 og0_13
      clear k0_13 k1_13
      have k0_14 := HB14.cell (p := ⟨w.heap.size, 0, none⟩) hBl |>.trans c0
      have k1_14 := HB14.cell (p := ⟨w.heap.size, 1, none⟩) hBl |>.trans c1
      go_wp2_with fail
      refine (heldPair_own g0 (prPutR l0 e1).length _ _ _ og0_14 hR0).mono ?_
      rintro e w15 ⟨rfl, hb15⟩
      have HB15 := HB14.trans (hb15.mono hW14)
      have hW15 := HB15.size
      have hM15 := hb15.size
      have os0_15 := ownR_kept os0_14 hb15
      have og0_15 := ownR_kept og0_14 hb15
      clear hb15 HB14 os0_14 og0_14
      clear k0_14 k1_14
      have k0_15 := HB15.cell (p := ⟨w.heap.size, 0, none⟩) hBl |>.trans c0
      have k1_15 := HB15.cell (p := ⟨w.heap.size, 1, none⟩) hBl |>.trans c1
      go_wp2_with fail
      refine wp_region_held_drew (S := (fun w' => w'.cell? ⟨w.heap.size, 0, none⟩ = some (.string e1.1) ∧ w'.cell? ⟨w.heap.size, 1, none⟩ = some (.string e1.2))) (by kernel_rfl) (by exact ⟨k0_15, k1_15⟩) (fun hHeld => ?_)
      refine takeH (i := 0) (d := (some 100)) (v := ?_) rfl rfl (by kernel_rfl) (by kernel_rfl) (by kernel_rfl) (fun _ _ _ h => h) (by kernel_rfl) ?_ (by assumption) ?_
      rotate_left
      · (intro w hSw; (try dsimp only at hSw); go_simp; try with_reducible rfl)
      try simp only [Act.put, List.setIfInBounds_toArray, List.set_cons_succ, List.set_cons_zero]
      refine takeH (i := 2) (d := (some 102)) (v := ?_) rfl rfl (by kernel_rfl) (by kernel_rfl) (by kernel_rfl) (fun _ _ _ h => h) (by kernel_rfl) ?_ (by assumption) ?_
      rotate_left
      · (intro w hSw; (try dsimp only at hSw); go_simp; try with_reducible rfl)
      try simp only [Act.put, List.setIfInBounds_toArray, List.set_cons_succ, List.set_cons_zero]
      refine wpAnyH_ready (rs := [1]) (by kernel_rfl) (by simp) ?_
      refine AllReadyH.cons rfl (fun K hK => ?_) AllReadyH.nil
      go_simp
      refine (toPairS_own v0 l0 _ (readsR_kept hr0 HB15.drew) hl0).mono ?_; rintro e w16 ⟨z0, rfl, oz0_16, hb16⟩; have oz0_16 : PrOwn w16 w15.heap.size w16.heap.size z0 l0 := oz0_16; have hb16 : Below w15.heap.size w15 w16 := (Below.refl w15.heap.size w15).drew.trans hb16
      refine hK.out _ _ ?_ (fun hHeld => ?_)
      · exact ⟨((HB15.trans (hb16.mono hW15)).cell (p := ⟨w.heap.size, 0, none⟩) hBl).trans c0, ((HB15.trans (hb16.mono hW15)).cell (p := ⟨w.heap.size, 1, none⟩) hBl).trans c1⟩
      clear hK K
      try simp only [Act.put, List.setIfInBounds_toArray, List.set_cons_succ, List.set_cons_zero]
      clear hHeld
      have HB16 := HB15.trans (hb16.mono hW15)
      have hW16 := HB16.size
      have hM16 := hb16.size
      have os0_16 := ownR_kept os0_15 hb16
      have og0_16 := ownR_kept og0_15 hb16
      clear hb16 HB15 os0_15 og0_15
      clear k0_15 k1_15
      have k0_16 := HB16.cell (p := ⟨w.heap.size, 0, none⟩) hBl |>.trans c0
      have k1_16 := HB16.cell (p := ⟨w.heap.size, 1, none⟩) hBl |>.trans c1
      refine wpAnyH_ready (rs := [3]) (by kernel_rfl) (by simp) ?_
      refine AllReadyH.cons rfl (fun K hK => ?_) AllReadyH.nil
      go_simp
      refine (toPair_any e1.1 e1.2 _).mono ?_; rintro e w17 ⟨rfl, hb17⟩
      refine hK.out _ _ ?_ (fun hHeld => ?_)
      · exact ⟨((HB16.trans (hb17.mono hW16)).cell (p := ⟨w.heap.size, 0, none⟩) hBl).trans c0, ((HB16.trans (hb17.mono hW16)).cell (p := ⟨w.heap.size, 1, none⟩) hBl).trans c1⟩
      clear hK K
      try simp only [Act.put, List.setIfInBounds_toArray, List.set_cons_succ, List.set_cons_zero]
      clear hHeld
      have HB17 := HB16.trans (hb17.mono hW16)
      have hW17 := HB17.size
      have hM17 := hb17.size
      have os0_17 := ownR_kept os0_16 hb17
      have og0_17 := ownR_kept og0_16 hb17
      have oz0_17 := ownR_kept oz0_16 hb17
      clear hb17 HB16 os0_16 og0_16 oz0_16
      clear k0_16 k1_16
      have k0_17 := HB17.cell (p := ⟨w.heap.size, 0, none⟩) hBl |>.trans c0
      have k1_17 := HB17.cell (p := ⟨w.heap.size, 1, none⟩) hBl |>.trans c1
      refine wpAnyH_ready (rs := [4]) (by kernel_rfl) (by simp) ?_
      refine AllReadyH.cons rfl (fun K hK => ?_) AllReadyH.nil
      go_simp
      refine (impl_any z0 l0 e1 _ (ownR_reads prC_len oz0_17) hl0 ).mono ?_; rintro e w18 ⟨h0, rfl, oh0_18, hb18⟩
      refine hK.out _ _ ?_ (fun hHeld => ?_)
      · exact ⟨((HB17.trans (hb18.mono hW17)).cell (p := ⟨w.heap.size, 0, none⟩) hBl).trans c0, ((HB17.trans (hb18.mono hW17)).cell (p := ⟨w.heap.size, 1, none⟩) hBl).trans c1⟩
      clear hK K
      try simp only [Act.put, List.setIfInBounds_toArray, List.set_cons_succ, List.set_cons_zero]
      refine takeH (i := 5) (d := (some 99)) (v := ?_) rfl rfl (by kernel_rfl) (by kernel_rfl) (by kernel_rfl) (fun _ _ _ h => h) (by kernel_rfl) ?_ (by assumption) ?_
      rotate_left
      · (intro w hSw; (try dsimp only at hSw); go_simp; try with_reducible rfl)
      try simp only [Act.put, List.setIfInBounds_toArray, List.set_cons_succ, List.set_cons_zero]
      refine takeH (i := 6) (d := (some 105)) (v := ?_) rfl rfl (by kernel_rfl) (by kernel_rfl) (by kernel_rfl) (fun _ _ _ h => h) (by kernel_rfl) ?_ (by assumption) ?_
      rotate_left
      · (intro w hSw; (try dsimp only at hSw); go_simp; try with_reducible rfl)
      try simp only [Act.put, List.setIfInBounds_toArray, List.set_cons_succ, List.set_cons_zero]
      refine takeH (i := 7) (d := (some 106)) (v := ?_) rfl rfl (by kernel_rfl) (by kernel_rfl) (by kernel_rfl) (fun _ _ _ h => h) (by kernel_rfl) ?_ (by assumption) ?_
      rotate_left
      · (intro w hSw; (try dsimp only at hSw); go_simp; try with_reducible rfl)
      try simp only [Act.put, List.setIfInBounds_toArray, List.set_cons_succ, List.set_cons_zero]
      refine takeH (i := 8) (d := (some 107)) (v := ?_) rfl rfl (by kernel_rfl) (by kernel_rfl) (by kernel_rfl) (fun _ _ _ h => h) (by kernel_rfl) ?_ (by assumption) ?_
      rotate_left
      · (intro w hSw; (try dsimp only at hSw); go_simp; try with_reducible rfl)
      try simp only [Act.put, List.setIfInBounds_toArray, List.set_cons_succ, List.set_cons_zero]
      refine takeH (i := 9) (d := (some 16)) (v := ?_) rfl rfl (by kernel_rfl) (by kernel_rfl) (by kernel_rfl) (fun _ _ _ h => h) (by kernel_rfl) ?_ (by assumption) ?_
      rotate_left
      · (intro w hSw; (try dsimp only at hSw); go_simp; try with_reducible rfl)
      try simp only [Act.put, List.setIfInBounds_toArray, List.set_cons_succ, List.set_cons_zero]
      refine takeH (i := 10) (d := (some 17)) (v := ?_) rfl rfl (by kernel_rfl) (by kernel_rfl) (by kernel_rfl) (fun _ _ _ h => h) (by kernel_rfl) ?_ (by assumption) ?_
      rotate_left
      · (intro w hSw; (try dsimp only at hSw); go_simp; try with_reducible rfl)
      try simp only [Act.put, List.setIfInBounds_toArray, List.set_cons_succ, List.set_cons_zero]
      refine takeH (i := 11) (d := (some 18)) (v := ?_) rfl rfl (by kernel_rfl) (by kernel_rfl) (by kernel_rfl) (fun _ _ _ h => h) (by kernel_rfl) ?_ (by assumption) ?_
      rotate_left
      · (intro w hSw; (try dsimp only at hSw); go_simp; try with_reducible rfl)
      try simp only [Act.put, List.setIfInBounds_toArray, List.set_cons_succ, List.set_cons_zero]
      refine wpAnyH_done (by kernel_rfl) ?_ _
      clear hHeld
      have HB18 := HB17.trans (hb18.mono hW17)
      have hW18 := HB18.size
      have hM18 := hb18.size
      have os0_18 := ownR_kept os0_17 hb18
      have og0_18 := ownR_kept og0_17 hb18
      have oz0_18 := ownR_kept oz0_17 hb18
      clear hb18 HB17 os0_17 og0_17 oz0_17
      clear k0_17 k1_17
      have k0_18 := HB18.cell (p := ⟨w.heap.size, 0, none⟩) hBl |>.trans c0
      have k1_18 := HB18.cell (p := ⟨w.heap.size, 1, none⟩) hBl |>.trans c1
      go_wp2_with fail
      clear oz0_18
      refine (eqPairS_true h0 s0 (prPutR l0 e1) _ (ownR_reads prC_len oh0_18) (ownR_reads prC_len os0_18) hR0).mono ?_
      rintro e w19 ⟨rfl, hb19⟩
      have HB19 := HB18.trans (hb19.mono hW18)
      have hW19 := HB19.size
      have hM19 := hb19.size
      have os0_19 := ownR_kept os0_18 hb19
      have og0_19 := ownR_kept og0_18 hb19
      have oh0_19 := ownR_kept oh0_18 hb19
      clear hb19 HB18 os0_18 og0_18 oh0_18
      clear k0_18 k1_18
      have k0_19 := HB19.cell (p := ⟨w.heap.size, 0, none⟩) hBl |>.trans c0
      have k1_19 := HB19.cell (p := ⟨w.heap.size, 1, none⟩) hBl |>.trans c1
      go_wp2_with fail
      refine (heldPair_own g0 (prPutR l0 e1).length _ _ _ og0_19 hR0).mono ?_
      rintro e w20 ⟨rfl, hb20⟩
      have HB20 := HB19.trans (hb20.mono hW19)
      have hW20 := HB20.size
      have hM20 := hb20.size
      have os0_20 := ownR_kept os0_19 hb20
      have og0_20 := ownR_kept og0_19 hb20
      have oh0_20 := ownR_kept oh0_19 hb20
      clear hb20 HB19 os0_19 og0_19 oh0_19
      clear k0_19 k1_19
      have k0_20 := HB20.cell (p := ⟨w.heap.size, 0, none⟩) hBl |>.trans c0
      have k1_20 := HB20.cell (p := ⟨w.heap.size, 1, none⟩) hBl |>.trans c1
      go_wp2_with fail
      go_ret
      exact ⟨rfl, hBW.trans (HB20.mono hBW.size)⟩

set_option maxRecDepth 100000 in
theorem lifted (os : Os) (started : os.Started) (H : Type) (enc : TypeId × Value → H) :
    ReturnsInHanded {} Try.checked os 4 .any (Rows.fnExactFieldsPutSpec.pre6 enc Try.prog Try.f4 Rows.fnExactFieldsPutRow.domain false) (Rows.fnExactFieldsPutSpec.post enc Try.prog Try.f4 false true false false) := by
  refine returnsInHanded_of_change (C := Try.checked) own started (by kernel_rfl) Try.func4
    (ChangeSpec.witness6 (enc := enc) (C := Try.checked) false ⟨#[], #[.slice none 0 0, .agg #[.string ByteArray.empty, .string ByteArray.empty]], []⟩ 8 (by kernel_rfl) (by kernel_rfl) (by kernel_rfl) (by kernel_rfl)) ?_
  intro W base args ds gs before hval0 hW hcnd _
  have hval : ∀ (j : Nat) t v, Try.f4.params[j]? = some t → args[j]? = some v → Value.okWide Try.prog W .any base t v := hval0
  have hW' := hW
  obtain ⟨p, q, hA0, hV, rfl, hfz, hnd⟩ := hW
  have hA : DataW.TrodAll enc Try.prog W 0 (fun _ => true) true Try.f4.params.toList args.toList ds p := hA0
  rw [Try.params4] at hA hval
  obtain ⟨v0, vs0, d0, ds0, p0, q0, hargs, rfl, rfl, h0, r0⟩ := trodAll_cons hA
  obtain ⟨v1, vs1, d1, ds1, p1, q1, rfl, rfl, rfl, h1, r1⟩ := trodAll_cons r0
  obtain ⟨rfl, rfl, rfl⟩ := trodAll_nil r1
  obtain rfl : args = #[v0, v1] := by cases args; simp_all
  obtain ⟨rfl, rfl⟩ := trodVars_none hV
  obtain ⟨a0, len0, cap0, rfl⟩ := okWide_slice Try.underlying36 (hval 0 36 v0 rfl rfl)
  have k0 := h0
  have lt0 : ∀ x ∈ p0, x.block < W.heap.size := by obtain ⟨m, hm⟩ := k0; exact DataW.trod_lt m _ _ _ hm
  obtain ⟨l0, w0⟩ : ∃ l, PrReads W (.slice a0 len0 cap0) l ∧ prFit l ∧ l.length ≤ maxLen := by
    obtain ⟨fuel, hf⟩ := h0
    exact pr_open (by simp [Value.cells]) hf
  have k1 := h1
  have lt1 : ∀ x ∈ p1, x.block < W.heap.size := by obtain ⟨m, hm⟩ := k1; exact DataW.trod_lt m _ _ _ hm
  obtain ⟨e1, rfl, w1⟩ := pr_open1 (hval 1 38 v1 rfl rfl) h1
  clear hA0 hval0
  refine (walk (.slice a0 len0 cap0) l0 e1 W w0.1 w0.2.1 w0.2.2 w1).mono fun e W' ⟨he, bel⟩ => ?_
  subst he
  exact ⟨_, rfl, _, _, _, [], _, [], hW', trodAll_mk1 (shut_bool Try.underlying4 _), (trodAll_cons_mk (Below.trod laidOut (by kernel_rfl) (of_decide_eq_true (by kernel_rfl)) k0 bel lt0) (trodAll_cons_mk (Below.trod laidOut (by kernel_rfl) (of_decide_eq_true (by kernel_rfl)) k1 bel lt1) trodAll_mk0)), rfl, bel.frame _, fun h => by cases h⟩

theorem over : Rows.fnExactFieldsPutRow.holds Try.pinned (OpenSpec.ofChange Rows.fnExactFieldsPutSpec) :=
  OpenClaim.holds_of_wide 4 Try.f4 rfl rfl rfl rfl rfl rfl rfl ⟨rfl, rfl, rfl, rfl, rfl⟩ rfl rfl rfl rfl rfl (by kernel_rfl) Try.func4 (by kernel_rfl)
    (of_decide_eq_true (by kernel_rfl)) (by unfold Func.isWrapper; first | (rw [if_pos (by decide +kernel)]; kernel_rfl) | (rw [if_neg (by decide +kernel)]; exact ⟨rfl, rfl⟩))
    (fun os started H enc _ => lifted os started H enc)

theorem proved : Rows.FnExactFieldsPutSaid := over
end Go.Proofs.Ytacobcpecgclfaa.fnExactFieldsPut
