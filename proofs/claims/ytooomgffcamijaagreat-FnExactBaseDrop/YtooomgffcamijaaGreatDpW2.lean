/- Several texts in one: DpD DpE. -/
import Derived.Test.YtooomgffcamijaaGreatDpW1
import Derived.Test.YtooomgffcamijaaGreatGrD
import Derived.Test.YtooomgffcamijaaGreatMkW1
import Derived.Test.YtooomgffcamijaaGreatTl
/- The model's l4Drop: a copy of a base, of which one entry is cut out. -/
namespace Go.Proofs.YtooomgffcamijaaGreat
open Go.RowKit
set_option linter.unusedVariables false

theorem ensOwn_erase {w : World} : ∀ {l : List Row} {lo hi : Nat} (k : Nat), EnsOwn w lo hi l → EnsOwn w lo hi (l.eraseIdx k)
  | [], _, _, _, h => h
  | x :: l, lo, hi, 0, ⟨m, h1, h2, h3⟩ => by
    obtain ⟨a, b, g1, g2, g3, _, _, _⟩ := h2
    exact ensOwn_base (by omega) h3
  | x :: l, lo, hi, k + 1, ⟨m, h1, h2, h3⟩ => ⟨m, h1, h2, ensOwn_erase k h3⟩

set_option maxHeartbeats 8000000 in
set_option maxRecDepth 100000 in
theorem l4Drop_any (n : Int) (v : Value) (l : List Row) (s : ByteArray) (w : World) (hr : EsReads w v l) (hs : EsSmall l) (hok : bsOkB n (l.map Row.e) = true) :
    Calls Tryz.prog 14 #[bsV n v, .string s] w fun x w' => (∃ u ys, x = .returned (bsV n u) ∧ ys.map Row.e = (esWo l s).map Row.e ∧ Gr w' w.heap.size u ys) ∧ Below w.heap.size w w' := by
  obtain ⟨ao, cap, rfl⟩ := readsR_shape hr.rows
  have hlen := hs.len
  obtain ⟨i0, hi0, iz0, iz1, iz2⟩ := info_parts enInfo
  have HK : Hid (bsOkB n (l.map Row.e) = true) := hok
  clear hok
  go_enter Tryz.func14, Tryz.ntmps14
  go_wp2_with fail
  obtain ⟨w0, hW⟩ : ∃ W, (w.alloc (.cells #[.int .i64 n, .slice ao l.length cap] 28)).alloc (.cells #[.int .i64 0, .slice none 0 0] 28) = W := ⟨_, rfl⟩
  have hB0 : Below w.heap.size w w0 := by rw [← hW]; exact ((Below.refl _ w).alloc (Nat.le_refl _) _).alloc (by simp) _
  have hzz : w0.heap.size = w.heap.size + 2 := by rw [← hW]; simp
  obtain ⟨q0, q1⟩ : w0.heap[w.heap.size]? = some _ ∧ w0.heap[w.heap.size + 1]? = some _ := by rw [← hW]; exact two_rows _ _ _
  rw [hW]
  clear hW
  refine (l4Copy_any n _ l _ (esReads_kept hr hB0) hs).mono ?_
  rintro x w1 ⟨⟨u, ys, rfl, hy, hg⟩, hb1⟩
  obtain ⟨au, cu, rfl⟩ := readsR_shape (gr_reads hg).rows
  have HYL : Hid (ys.length = l.length) := by show _ = _; have := congrArg List.length hy; simpa using this
  have hB1 := hB0.trans (hb1.mono hB0.size)
  have hz1 := hb1.size
  rw [hzz] at hz1
  have q0 := (hb1.block w.heap.size (by omega)).trans q0
  have q1 := (hb1.block (w.heap.size + 1) (by omega)).trans q1
  have HY : Hid _ := hy
  clear hy
  obtain ⟨O, hO⟩ : ∃ O, w1.heap.size = O := ⟨_, rfl⟩
  obtain ⟨v1, hW⟩ : ∃ W, w1.alloc (.cells #[.int .i64 n, .slice au ys.length cu] 28) = W := ⟨_, rfl⟩
  have hbv : Below w1.heap.size w1 v1 := by rw [← hW]; exact (Below.refl _ w1).alloc (Nat.le_refl _) _
  have hzv : v1.heap.size = O + 1 := by rw [← hW, ← hO]; simp
  have p2 : v1.heap[O]? = some (.cells #[.int .i64 n, .slice au ys.length cu] 28 (0, 0)) := by rw [← hW, ← hO]; exact heap_alloc_new _ _
  have b0 : v1.cell? ⟨w.heap.size, 0, none⟩ = some (.int .i64 n) := by rw [cell_of_row _ _ _ _ _ _ ((hbv.block _ (by omega)).trans q0)]; rfl
  have b1 : v1.cell? ⟨w.heap.size, 1, none⟩ = some (.slice ao l.length cap) := by rw [cell_of_row _ _ _ _ _ _ ((hbv.block _ (by omega)).trans q0)]; rfl
  go_wp2_with fail
  have hBv := hB1.trans (hbv.mono hB1.size)
  have Q1 : Hid _ := (hbv.block (w.heap.size + 1) (by omega)).trans q1
  have P2 : Hid _ := p2
  have hgv := ensOwn_kept hg.ins hbv
  have hgr := ownsR_kept hg.rows hbv
  rw [hO] at hgv
  have HGV : Hid _ := hgv
  have HGR : Hid _ := hgr
  have hOw : w.heap.size + 2 ≤ O := by omega
  clear b0 b1 hW hO hbv q0 q1 p2 hB0 hB1 hb1 hg hgv hgr hz1
  refine (l4At_any n _ l s _ (esReads_kept hr hBv) hlen).mono ?_
  rintro x w2 ⟨⟨k, rfl, hk, hlt, hge⟩, hb2⟩
  obtain ⟨he, hki⟩ := at_idx HK.out hk hlt hge
  rw [he]
  have HKI : Hid (esHas l s = true → k = esIdx l s) := hki
  have hz2 := hb2.size
  rw [hzv] at hz2
  have hB2 := hBv.trans (hb2.mono hBv.size)
  have q1 := (hb2.block (w.heap.size + 1) (by omega)).trans Q1.out
  have q2 := (hb2.block O (by omega)).trans P2.out
  have R1 : Hid _ := q1
  have R2 : Hid _ := q2
  have HGR2 : Hid _ := ownsR_kept HGR.out hb2
  have HGV2 : Hid _ := ensOwn_kept HGV.out hb2
  have o0 : w2.cell? ⟨O, 0, none⟩ = some (.int .i64 n) := by rw [cell_of_row _ _ _ _ _ _ q2]; rfl
  have o1 : w2.cell? ⟨O, 1, none⟩ = some (.slice au ys.length cu) := by rw [cell_of_row _ _ _ _ _ _ q2]; rfl
  have r0 : w2.cell? ⟨w.heap.size + 1, 0, none⟩ = some (.int .i64 0) := by rw [cell_of_row _ _ _ _ _ _ q1]; rfl
  have r1 : w2.cell? ⟨w.heap.size + 1, 1, none⟩ = some (.slice none 0 0) := by rw [cell_of_row _ _ _ _ _ _ q1]; rfl
  have f1 : ∀ o, w2.frozen? ⟨w.heap.size + 1, o, none⟩ = false := fun o => by simp [World.frozen?, q1]
  have f2 : ∀ o, w2.frozen? ⟨O, o, none⟩ = false := fun o => by simp [World.frozen?, q2]
  clear he hki hb2 hBv Q1 P2 HGR HGV hlt hge q1 q2 hr
  cases hh : esHas l s with
  | false =>
    have HW : Hid (esWo l s = l) := by
      refine esWo_miss ?_
      have := esHas_plc l s
      rw [hh] at this
      have := of_decide_eq_false this
      omega
    clear hh HKI
    go_wp2_with fail
    have HG2 : Gr w2 w0.heap.size (.slice au ys.length cu) ys := ⟨HGR2.out, ensOwn_up HGV2.out (by omega)⟩
    have b1 := (hB2.setCell (p := ⟨w.heap.size + 1, 0, none⟩) (by show w.heap.size ≤ w.heap.size + 1; omega) (.int .i64 n)).setCell (p := ⟨w.heap.size + 1, 1, none⟩) (by show w.heap.size ≤ w.heap.size + 1; omega) (.slice au ys.length cu)
    refine bodyPost_ret (results_cell_row rfl _ _ (w.heap.size + 1) 28 _ (0, 0) _ rfl (box2_set R1.out _ _) Tryz.underlying28 rfl (by kernel_rfl)) rfl ?_
    exact ⟨⟨_, ys, rfl, by rw [HW.out]; exact HY.out, gr_base (gr_cell (gr_cell HG2 ⟨w.heap.size + 1, 0, none⟩ (.int .i64 n) (by show w.heap.size + 1 < _; omega)) ⟨w.heap.size + 1, 1, none⟩ (.slice au ys.length cu) (by show w.heap.size + 1 < _; omega)) (by omega)⟩, b1⟩
  | true =>
    have hki := HKI.out hh
    have hkl : k < ys.length := by
      rw [HYL.out, hki]
      unfold esHas at hh
      exact of_decide_eq_true hh
    have HW : Hid ((ys.eraseIdx k).map Row.e = (esWo l s).map Row.e) := by
      show _ = _
      unfold esWo
      rw [map_erase, map_erase, HY.out, hki]
    clear hh HKI hki
    obtain ⟨g, hg⟩ : ∃ g, au = some ⟨g, 0, none⟩ := by
      rcases ownsR_form HGR2.out with ⟨h0, _⟩ | ⟨_, g, c, hv⟩
      · rw [h0] at hkl; simp at hkl
      · simp only [Value.slice.injEq, true_and] at hv; exact ⟨g, hv.1⟩
    subst hg
    obtain ⟨hnc, hcm⟩ : ys.length ≤ cu ∧ cu ≤ maxLen := by
      rcases HGR2.out.2 with ⟨h, _⟩ | ⟨g', cap', cur', hv, _, _, hnc, hcm, _⟩
      · cases h
      · simp only [Value.slice.injEq, Option.some.injEq, Addr.mk.injEq, and_true, true_and] at hv
        obtain ⟨rfl, rfl⟩ := hv
        exact ⟨hnc, hcm⟩
    have hgb := (World.ownsRow.lt HGR2.out g rfl).2
    have hra := readsR_at (ownsR_reads rowC_len HGR2.out)
    have HX1 : Hid (ReadsR rowC 7 w2 (.slice (some ⟨g, 0, none⟩) k cu) (ys.take k)) := by
      have := readsR_cut (c := rowC) (sz := 7) hgb hnc hcm hra (ao := some ⟨g, 0, none⟩) (a := 0) (e := k) (n := k) (k := cu) (fun _ => by simp) (by simp) (by omega) (by omega) (by omega) (by omega)
      rw [List.drop_zero] at this
      exact this
    obtain ⟨A, hA, HX2⟩ : ∃ A : Addr, (if cu = k + 1 then some (⟨g, 0, none⟩ : Addr) else some ⟨g, (k + 1) * 7, none⟩) = some A ∧ Hid (ReadsR rowC 7 w2 (.slice (some A) (ys.length - (k + 1)) (cu - (k + 1))) (ys.drop (k + 1))) := by
      refine ⟨if cu = k + 1 then ⟨g, 0, none⟩ else ⟨g, (k + 1) * 7, none⟩, by split <;> rfl, ?_⟩
      have := readsR_cut (c := rowC) (sz := 7) hgb hnc hcm hra (ao := some (if cu = k + 1 then ⟨g, 0, none⟩ else ⟨g, (k + 1) * 7, none⟩)) (a := k + 1) (e := ys.length) (n := ys.length - (k + 1)) (k := cu - (k + 1)) (fun h => by rw [if_neg h, Nat.zero_add]) (by simp) (by omega) (by omega) rfl rfl
      rw [List.take_length] at this
      exact this
    obtain ⟨m, hm⟩ : ∃ m, ys.length = m + 1 := ⟨ys.length - 1, by omega⟩
    rw [hm, Nat.add_sub_add_right] at HX2
    have HM : Hid (ys.length = m + 1) := hm
    have hB2' : Hid (Below w.heap.size w w2) := hB2
    rw [hm] at hnc hkl o1 
    unfold maxLen at hcm
    have hp0 : (0 : Int) ≤ (k : Int) + 1 := by omega
    have hp1 : (k : Int) + 1 ≤ (m : Int) + 1 := by omega
    have hp2 : (k : Int) ≤ (cu : Int) := by omega
    have hp3 : (m : Int) + 1 ≤ (cu : Int) := by omega
    have hp8 : ((k : Int) + 1).toNat = k + 1 := by omega
    have hp9 : IntKind.i64.wrap ((k : Int) + 1) = (k : Int) + 1 := wrap_id64 (by omega) (by omega)
    have hpc : ¬ cu = 0 := by omega
    clear hm hra hgb
    obtain ⟨w3, hW3⟩ : ∃ W, (w2.alloc (.cells #[] 53)).drew = W := ⟨_, rfl⟩
    have hb3 : Below w2.heap.size w2 w3 := by rw [← hW3]; exact ((Below.refl _ w2).alloc (Nat.le_refl _) _).drew
    have ho3 : w3.ownsRow w2.heap.size 53 7 (.slice (some ⟨w2.heap.size, 0, none⟩) 0 0) 0 [] := by rw [← hW3]; exact World.ownsRow.drew (World.ownsRow_lit w2 #[] 0 (Nat.le_refl _) (by simp) rfl)
    have o3 : w3.cell? ⟨O, 1, none⟩ = some (.slice (some ⟨g, 0, none⟩) (m + 1) cu) := (hb3.cell (p := ⟨O, 1, none⟩) (by show O < _; omega)).trans o1
    have hmb : m + 1 ≤ 1048576 := by have := HYL.out; have := HM.out; omega
    have HO3 : Hid (w3.ownsRow w2.heap.size 53 7 (.slice (some ⟨w2.heap.size, 0, none⟩) 0 0) 0 []) := ho3
    have HB3 : Hid _ := hb3
    have HZ2 : Hid (O < w2.heap.size) := (by omega : O < w2.heap.size)
    have HGV2' : Hid (EnsOwn w2 w0.heap.size O ys) := HGV2.out
    clear ho3 hb3 HGV2 HGR2 HK hs hlen hB2 r0 r1 f1 f2 o0
    go_wp2_with fail
    refine wp_region_L (S := (fun w' => w'.cell? ⟨O, 1, none⟩ = some (.slice (some ⟨g, 0, none⟩) (m + 1) cu))) 13 (by kernel_rfl) (by exact o1) (fun hHeld => ?_)
    refine takeL (i := 1) (d := (some 18)) (v := ?_) rfl rfl (by kernel_rfl) (by kernel_rfl) (by kernel_rfl) (by kernel_rfl) (by kernel_rfl) (fun _ _ _ h => h) (by kernel_rfl) ?_ (by assumption) ?_
    rotate_left
    · (intro w hSw; (try dsimp only at hSw); go_simp; try with_reducible rfl)
    try simp only [Act.put, List.setIfInBounds_toArray, List.set_cons_succ, List.set_cons_zero]
    refine takeL (i := 2) (d := (some 19)) (v := ?_) rfl rfl (by kernel_rfl) (by kernel_rfl) (by kernel_rfl) (by kernel_rfl) (by kernel_rfl) (fun _ _ _ h => h) (by kernel_rfl) ?_ (by assumption) ?_
    rotate_left
    · (intro w hSw; (try dsimp only at hSw); go_simp; try with_reducible rfl)
    try simp only [Act.put, List.setIfInBounds_toArray, List.set_cons_succ, List.set_cons_zero]
    refine takeL (i := 3) (d := (some 20)) (v := ?_) rfl rfl (by kernel_rfl) (by kernel_rfl) (by kernel_rfl) (by kernel_rfl) (by kernel_rfl) (fun _ _ _ h => h) (by kernel_rfl) ?_ (by assumption) ?_
    rotate_left
    · (intro w hSw; (try dsimp only at hSw); go_simp; try with_reducible rfl)
    try simp only [Act.put, List.setIfInBounds_toArray, List.set_cons_succ, List.set_cons_zero]
    refine takeL (i := 4) (d := (some 21)) (v := ?_) rfl rfl (by kernel_rfl) (by kernel_rfl) (by kernel_rfl) (by kernel_rfl) (by kernel_rfl) (fun _ _ _ h => h) (by kernel_rfl) ?_ (by assumption) ?_
    rotate_left
    · (intro w hSw; (try dsimp only at hSw); go_simp; try with_reducible rfl)
    try simp only [Act.put, List.setIfInBounds_toArray, List.set_cons_succ, List.set_cons_zero]
    refine takeL (i := 6) (d := (some 23)) (v := ?_) rfl rfl (by kernel_rfl) (by kernel_rfl) (by kernel_rfl) (by kernel_rfl) (by kernel_rfl) (fun _ _ _ h => h) (by kernel_rfl) ?_ (by assumption) ?_
    rotate_left
    · (intro w hSw; (try dsimp only at hSw); go_simp; try with_reducible rfl)
    try simp only [Act.put, List.setIfInBounds_toArray, List.set_cons_succ, List.set_cons_zero]
    refine takeL (i := 7) (d := (some 24)) (v := ?_) rfl rfl (by kernel_rfl) (by kernel_rfl) (by kernel_rfl) (by kernel_rfl) (by kernel_rfl) (fun _ _ _ h => h) (by kernel_rfl) ?_ (by assumption) ?_
    rotate_left
    · (intro w hSw; (try dsimp only at hSw); go_simp; try with_reducible rfl)
    try simp only [Act.put, List.setIfInBounds_toArray, List.set_cons_succ, List.set_cons_zero]
    refine takeL (i := 8) (d := (some 25)) (v := ?_) rfl rfl (by kernel_rfl) (by kernel_rfl) (by kernel_rfl) (by kernel_rfl) (by kernel_rfl) (fun _ _ _ h => h) (by kernel_rfl) ?_ (by assumption) ?_
    rotate_left
    · (intro w hSw; (try dsimp only at hSw); go_simp; try with_reducible rfl)
    try simp only [Act.put, List.setIfInBounds_toArray, List.set_cons_succ, List.set_cons_zero]
    refine takeL (i := 9) (d := (some 26)) (v := ?_) rfl rfl (by kernel_rfl) (by kernel_rfl) (by kernel_rfl) (by kernel_rfl) (by kernel_rfl) (fun _ _ _ h => h) (by kernel_rfl) ?_ (by assumption) ?_
    rotate_left
    · (intro w hSw; (try dsimp only at hSw); go_simp; try with_reducible rfl)
    try simp only [Act.put, List.setIfInBounds_toArray, List.set_cons_succ, List.set_cons_zero]
    refine takeL (i := 10) (d := (some 27)) (v := ?_) rfl rfl (by kernel_rfl) (by kernel_rfl) (by kernel_rfl) (by kernel_rfl) (by kernel_rfl) (fun _ _ _ h => h) (by kernel_rfl) ?_ (by assumption) ?_
    rotate_left
    · (intro w hSw; (try dsimp only at hSw); go_simp; try with_reducible rfl)
    try simp only [Act.put, List.setIfInBounds_toArray, List.set_cons_succ, List.set_cons_zero]
    refine wpAnyL_ready (rs := [0]) (by kernel_rfl) (by simp) ?_
    refine AllReadyL.cons rfl (fun K hK => ?_) AllReadyL.nil
    go_simp
    refine hK.out _ _ ?_ (fun hHeld => ?_)
    · exact o3
    clear hK K
    try simp only [Act.put, List.setIfInBounds_toArray, List.set_cons_succ, List.set_cons_zero]
    refine wpAnyL_ready (rs := [5]) (by kernel_rfl) (by simp) ?_
    refine AllReadyL.cons rfl (fun K hK => ?_) AllReadyL.nil
    refine step_append_R (c := rowC) (d := some 22) rfl rfl (.tmp 17) (.tmp 21) 26 rfl (w2.heap.size) 53 i0 _ 7 120 Tryz.underlying26 hi0 iz0 iz1 iz2 rfl (by decide) (.slice (some ⟨w2.heap.size, 0, none⟩) 0 0) 0 [] rfl HO3.out _ rfl (ys.take k) (readsR_kept HX1.out HB3.out) rowC_len rowC_one (by unfold maxLen; simp only [List.length_take, HM.out]; omega) (by simp only [List.length_take, HM.out]; omega) HB3.out.size ?_; intro u4 w4 ho4 hg4; have HB4 : Hid (Below w2.heap.size w2 w4) := HB3.out.grown hg4 HB3.out.size (fun j hj => (World.ownsRow.lt HO3.out j hj).1); have o4 : w4.cell? ⟨O, 1, none⟩ = some (.slice (some ⟨g, 0, none⟩) (m + 1) cu) := (HB4.out.cell (p := ⟨O, 1, none⟩) HZ2.out).trans o1; clear hg4
    refine hK.out _ _ ?_ (fun hHeld => ?_)
    · exact o4
    clear hK K
    (try simp only [Act.put]); (try simp only [List.setIfInBounds_toArray]); (try simp only [List.set_cons_succ]); (try simp only [List.set_cons_zero])
    refine wpAnyL_ready (rs := [11]) (by kernel_rfl) (by simp) ?_
    refine AllReadyL.cons rfl (fun K hK => ?_) AllReadyL.nil
    refine step_append_R (c := rowC) (d := some 28) rfl rfl (.tmp 22) (.tmp 27) 26 rfl (w2.heap.size) 53 i0 _ 7 120 Tryz.underlying26 hi0 iz0 iz1 iz2 rfl (by decide) u4 _ _ rfl ho4 _ rfl (ys.drop (k + 1)) (by rw [show m - k = (ys.drop (k + 1)).length by rw [List.length_drop, HM.out]; omega] at HX2 ⊢; exact readsR_kept HX2.out HB4.out) rowC_len rowC_one (by unfold maxLen; simp only [List.length_take, List.length_drop, HM.out]; omega) (by simp only [List.length_take, List.length_drop, HM.out]; omega) HB4.out.size ?_; intro u5 w5 ho5 hg5; have HB5 : Hid (Below w2.heap.size w2 w5) := HB4.out.grown hg5 HB4.out.size (fun j hj => (World.ownsRow.lt ho4 j hj).1); have o5 : w5.cell? ⟨O, 1, none⟩ = some (.slice (some ⟨g, 0, none⟩) (m + 1) cu) := (HB5.out.cell (p := ⟨O, 1, none⟩) HZ2.out).trans o1; clear hg5
    refine hK.out _ _ ?_ (fun hHeld => ?_)
    · exact o5
    clear hK K
    (try simp only [Act.put]); (try simp only [List.setIfInBounds_toArray]); (try simp only [List.set_cons_succ]); (try simp only [List.set_cons_zero])
    have hO5 : EsOwns w5 w2.heap.size u5 (ys.eraseIdx k) := by unfold EsOwns OwnsR; rw [List.eraseIdx_eq_take_drop_succ, List.flatMap_append, List.length_append]; simpa using ho5
    obtain ⟨a5, c5, rfl⟩ := readsR_shape (ownsR_reads rowC_len hO5)
    have q5 := (HB5.out.block O HZ2.out).trans R2.out
    have f5 : ∀ o, w5.frozen? ⟨O, o, none⟩ = false := fun o => by simp [World.frozen?, q5]
    refine takeL (i := 12) (d := (some 29)) (v := ?_) rfl rfl (by kernel_rfl) (by kernel_rfl) (by kernel_rfl) (by kernel_rfl) (by kernel_rfl) (fun _ _ _ h => h) (by kernel_rfl) ?_ (by assumption) ?_
    rotate_left
    · (intro w hSw; (try dsimp only at hSw); go_simp; try with_reducible rfl)
    try simp only [Act.put, List.setIfInBounds_toArray, List.set_cons_succ, List.set_cons_zero]
    refine wpAnyL_ready (rs := [13]) (by kernel_rfl) (by simp) ?_
    refine AllReadyL.last rfl (fun K hK => ?_)
    go_simp
    refine hK.out _ _ ?_
    clear hK K
    try simp only [Act.put, List.setIfInBounds_toArray, List.set_cons_succ, List.set_cons_zero]
    refine wpAnyL_done (by kernel_rfl) ?_ _
    have r5 := (HB5.out.block (w.heap.size + 1) (by omega)).trans R1.out
    obtain ⟨w6, hW6⟩ : ∃ W, w5.setCell ⟨O, 1, none⟩ (.slice a5 (ys.eraseIdx k).length c5) = W := ⟨_, rfl⟩
    have q6 : w6.heap[O]? = some (.cells #[.int .i64 n, .slice a5 (ys.eraseIdx k).length c5] 28 (0, 0)) := by
      rw [← hW6, heap_setCell_same _ O 1 _ _ _ q5]; rfl
    have r6 : w6.heap[w.heap.size + 1]? = some (.cells #[.int .i64 0, .slice none 0 0] 28 (0, 0)) := by
      rw [← hW6, Below.heap_setCell _ _ _ _ (by show w.heap.size + 1 ≠ O; omega)]; exact r5
    have hO6 : EsOwns w6 w2.heap.size (.slice a5 (ys.eraseIdx k).length c5) (ys.eraseIdx k) := by rw [← hW6]; exact own_setCell hO5 _ _ HZ2.out
    have hB6 : Below w.heap.size w w6 := by
      rw [← hW6]
      exact (hB2'.out.trans (HB5.out.mono hB2'.out.size)).setCell (p := ⟨O, 1, none⟩) (by show w.heap.size ≤ O; omega) _
    have hI6 : EnsOwn w6 w0.heap.size O (ys.eraseIdx k) := by
      refine ensOwn_erase k ?_
      rw [← hW6]
      exact ensOwn_before (p := O) (q := O + 1) (within_set (within_refl _ _ _) O 1 _ (Nat.le_refl _) (Nat.lt_succ_self _)) (Nat.le_refl _) (ensOwn_kept HGV2'.out HB5.out)
    have hz6 : w2.heap.size ≤ w6.heap.size := by rw [← hW6]; simp only [setCell_size]; exact HB5.out.size
    rw [hW6]
    have o0 : w6.cell? ⟨O, 0, none⟩ = some (.int .i64 n) := by rw [cell_of_row _ _ _ _ _ _ q6]; rfl
    have o1' : w6.cell? ⟨O, 1, none⟩ = some (.slice a5 (ys.eraseIdx k).length c5) := by rw [cell_of_row _ _ _ _ _ _ q6]; rfl
    have r0 : w6.cell? ⟨w.heap.size + 1, 0, none⟩ = some (.int .i64 0) := by rw [cell_of_row _ _ _ _ _ _ r6]; rfl
    have r1 : w6.cell? ⟨w.heap.size + 1, 1, none⟩ = some (.slice none 0 0) := by rw [cell_of_row _ _ _ _ _ _ r6]; rfl
    have f1 : ∀ o, w6.frozen? ⟨w.heap.size + 1, o, none⟩ = false := fun o => by simp [World.frozen?, r6]
    have R6 : Hid _ := r6
    have HO6 : Hid _ := hO6
    have HI6 : Hid _ := hI6
    clear hW6 q6 r6 hO6 hI6 r5 q5 f5 o5 o1 hO5 ho5 HX1 HX2 hA hHeld
    go_wp2_with fail
    have HG6 : Gr w6 w0.heap.size (.slice a5 (ys.eraseIdx k).length c5) (ys.eraseIdx k) := ⟨ownsR_base HO6.out (by omega), ensOwn_up HI6.out (by omega)⟩
    have b1 := (hB6.setCell (p := ⟨w.heap.size + 1, 0, none⟩) (by show w.heap.size ≤ w.heap.size + 1; omega) (.int .i64 n)).setCell (p := ⟨w.heap.size + 1, 1, none⟩) (by show w.heap.size ≤ w.heap.size + 1; omega) (.slice a5 (ys.eraseIdx k).length c5)
    refine bodyPost_ret (results_cell_row rfl _ _ (w.heap.size + 1) 28 _ (0, 0) _ rfl (box2_set R6.out _ _) Tryz.underlying28 rfl (by kernel_rfl)) rfl ?_
    exact ⟨⟨_, ys.eraseIdx k, rfl, HW.out, gr_base (gr_cell (gr_cell HG6 ⟨w.heap.size + 1, 0, none⟩ (.int .i64 n) (by show w.heap.size + 1 < _; omega)) ⟨w.heap.size + 1, 1, none⟩ (.slice a5 (ys.eraseIdx k).length c5) (by show w.heap.size + 1 < _; omega)) (by omega)⟩, b1⟩
end Go.Proofs.YtooomgffcamijaaGreat
/- The model's BaseDrop. -/
namespace Go.Proofs.YtooomgffcamijaaGreat
open Go.RowKit
set_option linter.unusedVariables false

theorem sdrop_res {w : World} {tmps : Array Value} {g : Nat} {x0 x1 : Value} {bb : Bool} (hp : tmps[4]?.getD undef = .pointer (some ⟨g, 0, none⟩)) (hb : tmps[5]?.getD undef = .bool bb)
    (hg : w.rangeAt g 0 [x0, x1]) : (results Tryz.f5 tmps).run Tryz.prog w = .ok (.tuple #[.agg #[x0, x1], .bool bb]) w := by
  have hl := run_loadVar_mid (P := Tryz.prog) w g 0 28 [x0, x1] _ hg Tryz.underlying28 rfl (by kernel_rfl)
  simp [results, Tryz.results5, asAddr, hp, hb, hl]
set_option maxHeartbeats 8000000 in
set_option maxRecDepth 100000 in
theorem specBaseDrop_any (n : Int) (v : Value) (l : List Row) (s : ByteArray) (w : World) (hr : EsReads w v l) (hs : EsSmall l) (hn : -9223372036854775808 ≤ n ∧ n ≤ 9223372036854775807) :
    Calls Tryz.prog 5 #[bsV n v, .string s] w fun x w' => (∃ u ys, x = .returned (.tuple #[bsV (dropN n l) u, .bool (dropB n l s)]) ∧ ys.map Row.e = dropL n l s ∧ Gr w' w.heap.size u ys) ∧ Below w.heap.size w w' := by
  obtain ⟨ao, cap, rfl⟩ := readsR_shape hr.rows
  have hlen := hs.len
  go_enter Tryz.func5, Tryz.ntmps5
  go_wp2_with fail
  obtain ⟨w0, hW⟩ : ∃ W, (w.alloc (.cells #[.int .i64 n, .slice ao l.length cap] 28)).alloc (.cells #[.int .i64 0, .slice none 0 0] 28) = W := ⟨_, rfl⟩
  have hB0 : Below w.heap.size w w0 := by rw [← hW]; exact ((Below.refl _ w).alloc (Nat.le_refl _) _).alloc (by simp) _
  have hzz : w0.heap.size = w.heap.size + 2 := by rw [← hW]; simp
  obtain ⟨q0, q1⟩ : w0.heap[w.heap.size]? = some _ ∧ w0.heap[w.heap.size + 1]? = some _ := by rw [← hW]; exact two_rows _ _ _
  rw [hW]
  clear hW
  refine (specBaseOk_any n _ l _ (esReads_kept hr hB0) hs hn).mono ?_
  rintro x w1 ⟨rfl, hb1⟩
  have hB1 := hB0.trans (hb1.mono hB0.size)
  have hOw := hb1.size
  rw [hzz] at hOw
  have q0 := (hb1.block w.heap.size (by omega)).trans q0
  have q1 := (hb1.block (w.heap.size + 1) (by omega)).trans q1
  have Q1 : Hid _ := q1
  have Q0 : Hid _ := q0
  have b0 : w1.cell? ⟨w.heap.size, 0, none⟩ = some (.int .i64 n) := by rw [cell_of_row _ _ _ _ _ _ q0]; rfl
  have b1 : w1.cell? ⟨w.heap.size, 1, none⟩ = some (.slice ao l.length cap) := by rw [cell_of_row _ _ _ _ _ _ q0]; rfl
  have r0 : w1.cell? ⟨w.heap.size + 1, 0, none⟩ = some (.int .i64 0) := by rw [cell_of_row _ _ _ _ _ _ q1]; rfl
  have r1 : w1.cell? ⟨w.heap.size + 1, 1, none⟩ = some (.slice none 0 0) := by rw [cell_of_row _ _ _ _ _ _ q1]; rfl
  have f1 : ∀ o, w1.frozen? ⟨w.heap.size + 1, o, none⟩ = false := fun o => by simp [World.frozen?, q1]
  clear hb1 hB0 hzz q0 q1
  cases hok : bsOkB n (l.map Row.e) with
  | false =>
    have HN : Hid (dropN n l = 0) := by show _ = _; unfold dropN; rw [if_neg (by rw [hok]; decide)]
    have HL : Hid (dropL n l s = []) := by show _ = _; unfold dropL; rw [if_neg (by rw [hok]; decide)]
    have HD : Hid (dropB n l s = false) := by show _ = _; unfold dropB; rw [hok]; rfl
    clear hok
    go_wp2_with fail
    have b1 := (hB1.setCell (p := ⟨w.heap.size + 1, 0, none⟩) (by show w.heap.size ≤ w.heap.size + 1; omega) (.int .i64 0)).setCell (p := ⟨w.heap.size + 1, 1, none⟩) (by show w.heap.size ≤ w.heap.size + 1; omega) (.slice none 0 0)
    refine bodyPost_ret (sdrop_res rfl rfl (range2 (box2_set Q1.out _ _))) rfl ?_
    exact ⟨⟨_, [], by rw [HN.out, HD.out], by rw [HL.out]; rfl, gr_nil b1.size⟩, b1⟩
  | true =>
    have HN : Hid (dropN n l = n) := by show _ = _; unfold dropN; rw [if_pos hok]
    have HL : Hid (dropL n l s = (esWo l s).map Row.e) := by show _ = _; unfold dropL; rw [if_pos hok]
    have HD : Hid (dropB n l s = esHas l s) := by show _ = _; unfold dropB; rw [hok]; rfl
    have HK : Hid (bsOkB n (l.map Row.e) = true) := hok
    clear hok r0 r1 f1
    go_wp2_with fail
    refine (l4At_any n _ l s _ (esReads_kept hr hB1) hlen).mono ?_
    rintro x w2 ⟨⟨k, rfl, hk, hlt, hge⟩, hb2⟩
    obtain ⟨he, -⟩ := at_idx HK.out hk hlt hge
    rw [he]
    have hz2 := hb2.size
    have hB2 := hB1.trans (hb2.mono hB1.size)
    have q0 := (hb2.block w.heap.size (by omega)).trans Q0.out
    have Q2 : Hid _ := (hb2.block (w.heap.size + 1) (by omega)).trans Q1.out
    have b0 : w2.cell? ⟨w.heap.size, 0, none⟩ = some (.int .i64 n) := by rw [cell_of_row _ _ _ _ _ _ q0]; rfl
    have b1 : w2.cell? ⟨w.heap.size, 1, none⟩ = some (.slice ao l.length cap) := by rw [cell_of_row _ _ _ _ _ _ q0]; rfl
    have hE := esReads_kept hr hB2
    have HB2 : Hid _ := hB2
    clear hb2 hB1 Q1 Q0 hlt hge he q0 hr hB2
    go_wp2_with fail
    refine (l4Drop_any n _ l s _ hE hs HK.out).mono ?_
    rintro x w4 ⟨⟨u, ys, rfl, hy, hg⟩, hb4⟩
    obtain ⟨ax, cx, rfl⟩ := readsR_shape (gr_reads hg).rows
    have hz4 := hb4.size
    have q1 := (hb4.block (w.heap.size + 1) (by omega)).trans Q2.out
    have Q4 : Hid _ := q1
    have HG : Hid _ := hg
    have HY : Hid _ := hy
    have hB4 := HB2.out.trans (hb4.mono HB2.out.size)
    have r0 : w4.cell? ⟨w.heap.size + 1, 0, none⟩ = some (.int .i64 0) := by rw [cell_of_row _ _ _ _ _ _ q1]; rfl
    have r1 : w4.cell? ⟨w.heap.size + 1, 1, none⟩ = some (.slice none 0 0) := by rw [cell_of_row _ _ _ _ _ _ q1]; rfl
    have f1 : ∀ o, w4.frozen? ⟨w.heap.size + 1, o, none⟩ = false := fun o => by simp [World.frozen?, q1]
    clear hb4 Q2 hg hy q1 hE b0 b1
    go_wp2_with fail
    have b1 := (hB4.setCell (p := ⟨w.heap.size + 1, 0, none⟩) (by show w.heap.size ≤ w.heap.size + 1; omega) (.int .i64 n)).setCell (p := ⟨w.heap.size + 1, 1, none⟩) (by show w.heap.size ≤ w.heap.size + 1; omega) (.slice ax ys.length cx)
    refine bodyPost_ret (sdrop_res rfl rfl (range2 (box2_set Q4.out _ _))) rfl ?_
    exact ⟨⟨_, ys, by rw [HN.out, HD.out], by rw [HL.out, HY.out], gr_base (gr_cell (gr_cell HG.out ⟨w.heap.size + 1, 0, none⟩ (.int .i64 n) (by show w.heap.size + 1 < _; omega)) ⟨w.heap.size + 1, 1, none⟩ (.slice ax ys.length cx) (by show w.heap.size + 1 < _; omega)) (by omega)⟩, b1⟩
end Go.Proofs.YtooomgffcamijaaGreat
