/- Proved: at every base, two texts and a number Scan answers as its model, field by field; it writes into no argument; its answer owns its memory, behind another call too. No condition. -/
import Derived.Test.YtaiboncomibikaaGreatDoorScnC
import Derived.Test.YtaiboncomibikaaGreatDoorMkS
import Derived.Test.YtaiboncomibikaaGreatDoorCards
import Derived.Test.YtaiboncomibikaaGreatDoorTie
import Derived.Test.YtaiboncomibikaaGreatDoorEnO
import Derived.ProofKit
import Derived.OpenShut
import Derived.ShutString
import Derived.ChangeOld
import Derived.Below
import Derived.Deep.RegionWith
import Derived.LaidMore
import Derived.Lay
import Derived.SevenTiedAt
import Derived.Stop.Joined
namespace Go.Proofs.YtaiboncomibikaaGreatDoor.fnExactScan
open Go.ChangeShapes Go.WideShapes Go.ChangeAt Go.RowKit
open Go.ChangeMaps (open_string shut_string)
set_option linter.unusedVariables false

theorem own : ownKnob Tryz.prog.godebug = none := by kernel_rfl
theorem laidOut : laidOutB Tryz.prog = true := by kernel_rfl
theorem row_lt {w : World} {B : Nat} {cs : Array Value} {t : TypeId} (h : w.heap[B]? = some (.cells cs t (0, 0))) : B < w.heap.size := (Array.getElem?_eq_some_iff.1 h).1
theorem res_cells2 {w : World} {B : Nat} {x0 x1 : Value} {t : TypeId} (h : w.heap[B]? = some (.cells #[x0, x1] t (0, 0))) : w.cell? ⟨B, 0, none⟩ = some x0 ∧ w.cell? ⟨B, 1, none⟩ = some x1 :=
  ⟨by rw [cell_of_row _ _ _ _ _ _ h]; rfl, by rw [cell_of_row _ _ _ _ _ _ h]; rfl⟩
theorem below_within {B : Nat} {a w w' : World} {lo hi : Nat} (h : Below B a w) (hw : Within w w' lo hi) (hlo : B ≤ lo ∧ B ≤ w.heap.size) : Below B a w' :=
  ⟨hw.os.trans h.os, hw.tape.trans h.tape, hw.output.trans h.output, Nat.le_trans h.size hw.size, fun i hi => (hw.block i (Nat.lt_of_lt_of_le hi hlo.2) (.inl (by omega))).trans (h.block i hi)⟩
theorem ms_map : ∀ {l m : List Row}, l.map Row.e = m.map Row.e → rowsM l = rowsM m
  | [], [], _ => rfl
  | [], _ :: _, h => by simp at h
  | _ :: _, [], h => by simp at h
  | x :: l, y :: m, h => by
    simp only [List.map_cons, List.cons.injEq] at h
    unfold rowsM rowM
    rw [h.1, ms_map h.2]
set_option maxHeartbeats 16000000 in
set_option maxRecDepth 100000 in
theorem walk (n : Int) (v : Value) (l : List Row) (h p : ByteArray) (c : Int) (w : World) (hr : EsReads w v l) (hf : ∀ x ∈ l, EnFit x.e) (hlen : l.length ≤ maxLen) (wf : (Lit.int .i64 n).wf = true) (wk : h.size ≤ maxLen) (wk2 : p.size ≤ maxLen) (wc : (Lit.int .i64 c).wf = true) :
    Calls Tryz.prog 3 #[bsV n v, .string h, .string p, .int .i64 c] w fun x w' => x = .returned (.bool true) ∧ Below w.heap.size w w' := by
  obtain ⟨ao, cap, rfl⟩ := readsR_shape hr.rows
  have hn : -9223372036854775808 ≤ n ∧ n ≤ 9223372036854775807 := by simpa [Lit.wf, IntKind.min, IntKind.max, IntKind.signed, IntKind.bits] using wf
  have hcc : -9223372036854775808 ≤ c ∧ c ≤ 9223372036854775807 := by simpa [Lit.wf, IntKind.min, IntKind.max, IntKind.signed, IntKind.bits] using wc
  have wg := wk
  have wg2 := wk2
  unfold maxLen at wg wg2
  have hb0 : Below w.heap.size w (w.alloc (.cells #[.int .i64 n, .slice ao l.length cap] 24)) := (Below.refl _ w).alloc (Nat.le_refl _) _
  rcases Int.lt_or_le (1048576 : Int) (h.size : Int) with hx | hx
  · go_enter Tryz.func3, Tryz.ntmps3
    go_wp2_with fail
    go_ret
    exact ⟨rfl, hb0⟩
  rcases Int.lt_or_le (1048576 : Int) (p.size : Int) with hx2 | hx2
  · go_enter Tryz.func3, Tryz.ntmps3
    go_wp2_with fail
    go_ret
    exact ⟨rfl, hb0⟩
  clear wf wk wk2 wc
  go_enter Tryz.func3, Tryz.ntmps3
  go_wp2_with fail
  have q0 : (w.alloc (.cells #[.int .i64 n, .slice ao l.length cap] 24)).heap[w.heap.size]? = some (.cells #[.int .i64 n, .slice ao l.length cap] 24 (0, 0)) := heap_alloc_new _ _
  have hs0 : (w.alloc (.cells #[.int .i64 n, .slice ao l.length cap] 24)).heap.size = w.heap.size + 1 := by simp
  obtain ⟨w0, hW⟩ : ∃ W, w.alloc (.cells #[.int .i64 n, .slice ao l.length cap] 24) = W := ⟨_, rfl⟩
  rw [hW] at hb0 q0 hs0 ⊢
  have t0 : w.heap.size + 1 ≤ w0.heap.size := by omega
  clear hW hs0
  have QAn : Hid _ := q0
  clear q0
  have HB0 := hb0
  clear hb0
  refine (szBaseP_any n _ l _ _ (esReads_kept hr HB0) hf hlen (by omega) (by omega)).mono ?_
  rintro x w1 ⟨⟨m, rfl, hm⟩, hb1⟩
  have QAw1 : Hid _ := (hb1.block w.heap.size (row_lt QAn.out)).trans QAn.out
  have HBw1 := HB0.trans (hb1.mono HB0.size)
  have hzw1 := hb1.size
  clear QAn HB0 hb1
  rcases hm with hm | ⟨hm0, hm1, hs, hmp⟩
  · go_wp2_with fail
    go_ret
    exact ⟨rfl, HBw1⟩
  have hM : rowsM l ≤ 4194304 := by have := rowsM_le l; omega
  obtain ⟨Q, hQ⟩ : ∃ Q, scanK n (l.map Row.e) h p c = Q := ⟨_, rfl⟩
  obtain ⟨Z, hZ⟩ : ∃ Z, scanN n (l.map Row.e) h p c = Z := ⟨_, rfl⟩
  have hne := ne_self Z
  have hQl : Q.length ≤ 1048576 := by rw [← hQ]; have := hs.len; have h2 := scanK_len n (l.map Row.e) h p c; rw [List.length_map] at h2; omega
  have HS : Hid (∀ (xs : List Row) (u : Value) (W : World), EsReads W u xs → xs.map Row.e = l.map Row.e → Calls Tryz.prog 5 #[bsV n u, .string h, .string p, .int .i64 c] W fun x W' => ∃ u', x = .returned (.tuple #[u', .string Z]) ∧ Owns W' W.heap.size u' Q ∧ Below W.heap.size W W') := fun xs u W hq hmx => by
    have := specScan_any n u xs h p c W hq (small_map hmx hs) hn (by omega) (by omega) hcc
    rw [hmx, hQ, hZ] at this
    exact this
  have HI : Hid (∀ (xs : List Row) (u : Value) (W : World), EsReads W u xs → xs.map Row.e = l.map Row.e → Calls Tryz.prog 7 #[bsV n u, .string h, .string p, .int .i64 c] W fun x W' => ∃ u', x = .returned (.tuple #[u', .string Z]) ∧ Owns W' W.heap.size u' Q ∧ Below W.heap.size W W') := fun xs u W hq hmx => by
    have := implScan_any n u xs h p c W hq (small_map hmx hs) (by omega) (by omega) hcc
    rw [hmx, hQ, hZ] at this
    exact this
  have HTB : Hid (∀ (W : World), Below w.heap.size w W → Calls Tryz.prog 6 #[bsV n (.slice ao l.length cap)] W fun x W' => (∃ v' ys, x = .returned (bsV n v') ∧ ys.map Row.e = l.map Row.e ∧ EsFor W' W.heap.size W'.heap.size v' ys) ∧ Below W.heap.size W W') := fun W hB => toBase_any n _ l W (esReads_kept hr hB) hs
  have HSM := hs
  clear hm1 hmp hlen hf hx hx2 wg wg2 hn hQ hZ hcc
  have Ac0 := (res_cells2 QAw1.out).1
  have Ac1 := (res_cells2 QAw1.out).2
  go_wp2_with fail
  refine (HTB.out _ HBw1).mono ?_
  rintro x w2 ⟨⟨u2, xs, rfl, hmxs, hoxs⟩, hbw2⟩
  clear Ac0 Ac1
  have QAw2 : Hid _ := (hbw2.block w.heap.size (row_lt QAw1.out)).trans QAw1.out
  have HBw2 := HBw1.trans (hbw2.mono HBw1.size)
  have hzw2 := hbw2.size
  clear QAw1 HBw1 hbw2
  have hrxs := esFor_reads hoxs
  obtain ⟨bo2, cb2, rfl⟩ := readsR_shape hrxs.rows
  clear hoxs
  go_wp2_with fail
  refine (HS.out xs _ _ hrxs hmxs).mono ?_
  rintro x w3 ⟨vw, rfl, hgW, hbw3⟩
  have hoW := own_of hgW
  clear hgW
  obtain ⟨a1, ha1⟩ : ∃ B, B = w2.heap.size := ⟨_, rfl⟩
  rw [← ha1] at hoW
  have la1 : w2.heap.size ≤ a1 := by omega
  have ra1 : a1 ≤ w2.heap.size := by omega
  clear ha1
  have QAw3 : Hid _ := (hbw3.block w.heap.size (row_lt QAw2.out)).trans QAw2.out
  have HBw3 := HBw2.trans (hbw3.mono HBw2.size)
  have hzw3 := hbw3.size
  clear QAw2 HBw2 hbw3
  obtain ⟨b1, hb1'⟩ : ∃ B, B = w3.heap.size := ⟨_, rfl⟩
  rw [← hb1'] at hoW
  have lb1 : w3.heap.size ≤ b1 := by omega
  have rb1 : b1 ≤ w3.heap.size := by omega
  clear hb1'
  clear hrxs hmxs
  have Ac0 := (res_cells2 QAw3.out).1
  have Ac1 := (res_cells2 QAw3.out).2
  go_wp2_with fail
  clear Ac0 Ac1
  refine (HTB.out _ HBw3).mono ?_
  rintro x w5 ⟨⟨_, ys, rfl, hmys, hoys⟩, hb5⟩
  obtain ⟨yo, yc, rfl⟩ := readsR_shape (esFor_reads hoys).rows
  obtain ⟨a2, ha2⟩ : ∃ B, B = w3.heap.size := ⟨_, rfl⟩
  rw [← ha2] at hoys
  have la2 : w3.heap.size ≤ a2 := by omega
  have ra2 : a2 ≤ w3.heap.size := by omega
  clear ha2
  have QAw5 : Hid _ := (hb5.block w.heap.size (row_lt QAw3.out)).trans QAw3.out
  have OWw5 := own_kept hoW hb5
  have HBw5 := HBw3.trans (hb5.mono HBw3.size)
  have hzw5 := hb5.size
  clear QAw3 hoW HBw3 hb5
  obtain ⟨b2, hb2'⟩ : ∃ B, B = w5.heap.size := ⟨_, rfl⟩
  rw [← hb2'] at hoys
  have lb2 : w5.heap.size ≤ b2 := by omega
  have rb2 : b2 ≤ w5.heap.size := by omega
  clear hb2'
  go_wp2_with fail
  have hbw6 : Below w5.heap.size w5 (w5.alloc (.cells #[.int .i64 n, .slice yo ys.length yc] 31)) := (Below.refl _ w5).alloc (Nat.le_refl _) _
  have qw6 : (w5.alloc (.cells #[.int .i64 n, .slice yo ys.length yc] 31)).heap[w5.heap.size]? = some (.cells #[.int .i64 n, .slice yo ys.length yc] 31 (0, 0)) := heap_alloc_new _ _
  have hsw6 : (w5.alloc (.cells #[.int .i64 n, .slice yo ys.length yc] 31)).heap.size = w5.heap.size + 1 := by simp
  obtain ⟨w6, hW⟩ : ∃ W, w5.alloc (.cells #[.int .i64 n, .slice yo ys.length yc] 31) = W := ⟨_, rfl⟩
  rw [hW] at hbw6 qw6 hsw6 ⊢
  clear hW
  obtain ⟨BX, hBX⟩ : ∃ B, B = w5.heap.size := ⟨_, rfl⟩
  rw [← hBX] at qw6 ⊢
  have lBX : w5.heap.size ≤ BX := by omega
  have rBX : BX ≤ w5.heap.size := by omega
  have tw6 : w5.heap.size + 1 ≤ w6.heap.size := by omega
  clear hBX hsw6
  have QXn : Hid _ := qw6
  clear qw6
  have QAw6 : Hid _ := (hbw6.block w.heap.size (row_lt QAw5.out)).trans QAw5.out
  have OWw6 := own_kept OWw5 hbw6
  have OXw6 := esFor_kept hoys hbw6
  have HBw6 := HBw5.trans (hbw6.mono HBw5.size)
  have hzw6 := hbw6.size
  clear QAw5 OWw5 hoys HBw5 hbw6
  have hrys := esFor_reads OXw6
  refine (HI.out ys _ _ hrys hmys).mono ?_
  rintro x w7 ⟨vg, rfl, hgG, hbw7⟩
  have hoG := own_of hgG
  clear hgG
  obtain ⟨a3, ha3⟩ : ∃ B, B = w6.heap.size := ⟨_, rfl⟩
  rw [← ha3] at hoG
  have la3 : w6.heap.size ≤ a3 := by omega
  have ra3 : a3 ≤ w6.heap.size := by omega
  clear ha3
  have QAw7 : Hid _ := (hbw7.block w.heap.size (row_lt QAw6.out)).trans QAw6.out
  have QXw7 : Hid _ := (hbw7.block BX (row_lt QXn.out)).trans QXn.out
  have OWw7 := own_kept OWw6 hbw7
  have OXw7 := esFor_kept OXw6 hbw7
  have HBw7 := HBw6.trans (hbw7.mono HBw6.size)
  have hzw7 := hbw7.size
  clear QAw6 QXn OWw6 OXw6 HBw6 hbw7
  obtain ⟨b3, hb3'⟩ : ∃ B, B = w7.heap.size := ⟨_, rfl⟩
  rw [← hb3'] at hoG
  have lb3 : w7.heap.size ≤ b3 := by omega
  have rb3 : b3 ≤ w7.heap.size := by omega
  clear hb3'
  clear hrys
  go_wp2_with fail
  refine (eq_true _ _ Q _ (own_reads hoG) (own_reads OWw7) hQl).mono ?_
  rintro x w9 ⟨rfl, hb9⟩
  have QAw9 : Hid _ := (hb9.block w.heap.size (row_lt QAw7.out)).trans QAw7.out
  have QXw9 : Hid _ := (hb9.block BX (row_lt QXw7.out)).trans QXw7.out
  have OWw9 := own_kept OWw7 hb9
  have OXw9 := esFor_kept OXw7 hb9
  have OGw9 := own_kept hoG hb9
  have HBw9 := HBw7.trans (hb9.mono HBw7.size)
  have hzw9 := hb9.size
  clear QAw7 QXw7 OWw7 OXw7 hoG HBw7 hb9
  have HSX : Hid (∀ w', Below w9.heap.size w9 w' → Below w9.heap.size w9 w' ∧ w'.cell? ⟨w.heap.size, 0, none⟩ = some (.int .i64 n) ∧ w'.cell? ⟨w.heap.size, 1, none⟩ = some (.slice ao l.length cap) ∧ w'.cell? ⟨BX, 0, none⟩ = some (.int .i64 n) ∧ w'.cell? ⟨BX, 1, none⟩ = some (.slice yo ys.length yc)) := fun w' h =>
    ⟨h, (res_cells2 ((h.block w.heap.size (row_lt QAw9.out)).trans QAw9.out)).1, (res_cells2 ((h.block w.heap.size (row_lt QAw9.out)).trans QAw9.out)).2, (res_cells2 ((h.block BX (row_lt QXw9.out)).trans QXw9.out)).1, (res_cells2 ((h.block BX (row_lt QXw9.out)).trans QXw9.out)).2⟩
  go_wp2_with fail
  refine wp_region_held_drew (S := (fun w' => Below w9.heap.size w9 w' ∧ w'.cell? ⟨w.heap.size, 0, none⟩ = some (.int .i64 n) ∧ w'.cell? ⟨w.heap.size, 1, none⟩ = some (.slice ao l.length cap) ∧ w'.cell? ⟨BX, 0, none⟩ = some (.int .i64 n) ∧ w'.cell? ⟨BX, 1, none⟩ = some (.slice yo ys.length yc))) (by kernel_rfl) (by exact HSX.out _ (Below.refl _ _).drew) (fun hHeld => ?_)
  refine takeH (i := 0) (d := (some 59)) (v := ?_) rfl rfl (by kernel_rfl) (by kernel_rfl) (by kernel_rfl) (fun _ _ _ h => h) (by kernel_rfl) ?_ (by assumption) ?_
  rotate_left
  · (intro w hSw; (try dsimp only at hSw); go_simp; try with_reducible rfl)
  try simp only [Act.put, List.setIfInBounds_toArray, List.set_cons_succ, List.set_cons_zero]
  refine takeH (i := 1) (d := (some 60)) (v := ?_) rfl rfl (by kernel_rfl) (by kernel_rfl) (by kernel_rfl) (fun _ _ _ h => h) (by kernel_rfl) ?_ (by assumption) ?_
  rotate_left
  · (intro w hSw; (try dsimp only at hSw); go_simp; try with_reducible rfl)
  try simp only [Act.put, List.setIfInBounds_toArray, List.set_cons_succ, List.set_cons_zero]
  refine wpAnyH_ready (rs := [2]) (by kernel_rfl) (by simp) ?_
  refine AllReadyH.cons rfl (fun K hK => ?_) AllReadyH.nil
  go_simp
  refine (HTB.out _ (HBw9.trans (hHeld.1.mono HBw9.size))).mono ?_; rintro x w10 ⟨⟨u6, zs, he, hmz, ho⟩, hb10⟩; subst he; have h10 := hHeld.1.trans (hb10.mono hHeld.1.size); have ry := esFor_reads ho; obtain ⟨go_, gc, rfl⟩ := readsR_shape ry.rows; have HMZ : Hid (ys.map Row.e = zs.map Row.e) := (hmys.trans hmz.symm); clear ho hb10 hmz
  refine hK.out _ _ ?_ (fun hHeld => ?_)
  · exact HSX.out _ h10
  clear hK K
  try simp only [Act.put, List.setIfInBounds_toArray, List.set_cons_succ, List.set_cons_zero]
  refine wpAnyH_ready (rs := [3]) (by kernel_rfl) (by simp) ?_
  refine AllReadyH.cons rfl (fun K hK => ?_) AllReadyH.nil
  go_simp
  refine (eqBase_true n _ _ ys zs _ (esReads_kept (esFor_reads OXw9) h10) ry (small_map hmys HSM) HMZ.out).mono ?_; rintro x w11 ⟨he, hb11⟩; subst he; have h11 := h10.trans (hb11.mono h10.size)
  refine hK.out _ _ ?_ (fun hHeld => ?_)
  · exact HSX.out _ h11
  clear hK K
  try simp only [Act.put, List.setIfInBounds_toArray, List.set_cons_succ, List.set_cons_zero]
  refine takeH (i := 4) (d := (some 63)) (v := ?_) rfl rfl (by kernel_rfl) (by kernel_rfl) (by kernel_rfl) (fun _ _ _ h => h) (by kernel_rfl) ?_ (by assumption) ?_
  rotate_left
  · (intro w hSw; (try dsimp only at hSw); go_simp; try with_reducible rfl)
  try simp only [Act.put, List.setIfInBounds_toArray, List.set_cons_succ, List.set_cons_zero]
  refine wpAnyH_done (by kernel_rfl) ?_ _
  have QAw11 : Hid _ := (h11.block w.heap.size (row_lt QAw9.out)).trans QAw9.out
  have QXw11 : Hid _ := (h11.block BX (row_lt QXw9.out)).trans QXw9.out
  have OWw11 := own_kept OWw9 h11
  have OXw11 := esFor_kept OXw9 h11
  have OGw11 := own_kept OGw9 h11
  have HBw11 := HBw9.trans (h11.mono HBw9.size)
  have hzw11 := h11.size
  clear QAw9 QXw9 OWw9 OXw9 OGw9 HBw9 h11
  have Xc0 := (res_cells2 QXw11.out).1
  have Xc1 := (res_cells2 QXw11.out).2
  go_wp2_with fail
  clear Xc0 Xc1
  refine (markBase_any n _ ys a2 b2 _ OXw11 (by omega) (by rw [ms_map hmys]; exact hM) (small_map hmys HSM).each).mono ?_
  rintro x w12 ⟨⟨k, rfl, hk⟩, hv12⟩
  have QAw12 : Hid _ := (hv12.block w.heap.size (row_lt QAw11.out) (by omega)).trans QAw11.out
  have QXw12 : Hid _ := (hv12.block BX (row_lt QXw11.out) (by omega)).trans QXw11.out
  have OWw12 := own_within OWw11 hv12 (by omega)
  have OGw12 := own_within OGw11 hv12 (by omega)
  have HBw12 := below_within HBw11 hv12 (by omega)
  have hzw12 := hv12.size
  clear QAw11 QXw11 OWw11 OGw11 HBw11 hv12
  go_wp2_with fail
  refine (eq_true _ _ Q _ (own_reads OGw12) (own_reads OWw12) hQl).mono ?_
  rintro x w13 ⟨rfl, hb13⟩
  have QAw13 : Hid _ := (hb13.block w.heap.size (row_lt QAw12.out)).trans QAw12.out
  have QXw13 : Hid _ := (hb13.block BX (row_lt QXw12.out)).trans QXw12.out
  have OWw13 := own_kept OWw12 hb13
  have OGw13 := own_kept OGw12 hb13
  have HBw13 := HBw12.trans (hb13.mono HBw12.size)
  have hzw13 := hb13.size
  clear QAw12 QXw12 OWw12 OGw12 HBw12 hb13
  go_wp2_with fail
  refine (mark_own _ Q a3 b3 _ OGw13 hQl).mono ?_
  rintro x w14 ⟨rfl, hg14, hgr14⟩
  have hv14 : Within w13 w14 a3 b3 := within_grown hgr14 (own_in OGw13)
  clear hgr14
  have QAw14 : Hid _ := (hv14.block w.heap.size (row_lt QAw13.out) (by omega)).trans QAw13.out
  have QXw14 : Hid _ := (hv14.block BX (row_lt QXw13.out) (by omega)).trans QXw13.out
  have OWw14 := own_within OWw13 hv14 (by omega)
  have HBw14 := below_within HBw13 hv14 (by omega)
  have hzw14 := hv14.size
  clear QAw13 QXw13 OWw13 HBw13 hv14
  clear OGw13
  go_wp2_with fail
  refine (held_own _ Q.length a3 b3 _ hg14 hQl).mono ?_
  rintro x w15 ⟨rfl, hb15⟩
  have QAw15 : Hid _ := (hb15.block w.heap.size (row_lt QAw14.out)).trans QAw14.out
  have QXw15 : Hid _ := (hb15.block BX (row_lt QXw14.out)).trans QXw14.out
  have OWw15 := own_kept OWw14 hb15
  have OGw15 := own_kept hg14 hb15
  have HBw15 := HBw14.trans (hb15.mono HBw14.size)
  have hzw15 := hb15.size
  clear QAw14 QXw14 OWw14 hg14 HBw14 hb15
  have Ac0 := (res_cells2 QAw15.out).1
  have Ac1 := (res_cells2 QAw15.out).2
  go_wp2_with fail
  clear Ac0 Ac1
  refine (HTB.out _ HBw15).mono ?_
  rintro x w16 ⟨⟨_, ts, rfl, hmts, hots⟩, hb16⟩
  have hrts := esFor_reads hots
  obtain ⟨to_, tc, rfl⟩ := readsR_shape hrts.rows
  have QAw16 : Hid _ := (hb16.block w.heap.size (row_lt QAw15.out)).trans QAw15.out
  have QXw16 : Hid _ := (hb16.block BX (row_lt QXw15.out)).trans QXw15.out
  have OWw16 := own_kept OWw15 hb16
  have OGw16 := own_kept OGw15 hb16
  have HBw16 := HBw15.trans (hb16.mono HBw15.size)
  have hzw16 := hb16.size
  clear QAw15 QXw15 OWw15 OGw15 HBw15 hb16
  go_wp2_with fail
  refine (HI.out ts _ _ hrts hmts).mono ?_
  rintro x w17 ⟨vh, rfl, hgH, hbw17⟩
  have hoH := own_of hgH
  clear hgH
  obtain ⟨a4, ha4⟩ : ∃ B, B = w16.heap.size := ⟨_, rfl⟩
  rw [← ha4] at hoH
  have la4 : w16.heap.size ≤ a4 := by omega
  have ra4 : a4 ≤ w16.heap.size := by omega
  clear ha4
  have QAw17 : Hid _ := (hbw17.block w.heap.size (row_lt QAw16.out)).trans QAw16.out
  have QXw17 : Hid _ := (hbw17.block BX (row_lt QXw16.out)).trans QXw16.out
  have OWw17 := own_kept OWw16 hbw17
  have OGw17 := own_kept OGw16 hbw17
  have HBw17 := HBw16.trans (hbw17.mono HBw16.size)
  have hzw17 := hbw17.size
  clear QAw16 QXw16 OWw16 OGw16 HBw16 hbw17
  obtain ⟨b4, hb4'⟩ : ∃ B, B = w17.heap.size := ⟨_, rfl⟩
  rw [← hb4'] at hoH
  have lb4 : w17.heap.size ≤ b4 := by omega
  have rb4 : b4 ≤ w17.heap.size := by omega
  clear hb4'
  clear hots hmts hrts
  go_wp2_with fail
  refine (eq_true _ _ Q _ (own_reads hoH) (own_reads OWw17) hQl).mono ?_
  rintro x w19 ⟨rfl, hb19⟩
  have QAw19 : Hid _ := (hb19.block w.heap.size (row_lt QAw17.out)).trans QAw17.out
  have QXw19 : Hid _ := (hb19.block BX (row_lt QXw17.out)).trans QXw17.out
  have OWw19 := own_kept OWw17 hb19
  have OGw19 := own_kept OGw17 hb19
  have OHw19 := own_kept hoH hb19
  have HBw19 := HBw17.trans (hb19.mono HBw17.size)
  have hzw19 := hb19.size
  clear QAw17 QXw17 OWw17 OGw17 hoH HBw17 hb19
  go_wp2_with fail
  refine (held_own _ Q.length a3 b3 _ OGw19 hQl).mono ?_
  rintro x w20 ⟨rfl, hb20⟩
  have QAw20 : Hid _ := (hb20.block w.heap.size (row_lt QAw19.out)).trans QAw19.out
  have QXw20 : Hid _ := (hb20.block BX (row_lt QXw19.out)).trans QXw19.out
  have OWw20 := own_kept OWw19 hb20
  have OGw20 := own_kept OGw19 hb20
  have OHw20 := own_kept OHw19 hb20
  have HBw20 := HBw19.trans (hb20.mono HBw19.size)
  have hzw20 := hb20.size
  clear QAw19 QXw19 OWw19 OGw19 OHw19 HBw19 hb20
  go_wp2_with fail
  go_ret
  exact ⟨rfl, HBw20⟩

set_option maxRecDepth 100000 in
theorem lifted (os : Os) (started : os.Started) (H : Type) (enc : TypeId × Value → H) :
    ReturnsInHanded {} Tryz.checked os 3 .any (fun w args => (Rows.fnExactScanSpec.pre enc Tryz.prog Tryz.f3 Rows.fnExactScanRow.domain false w args ∧ laidMetH Tryz.prog Rows.fnExactScanRow.laid w) ∧ sizedMet enc Tryz.prog Tryz.f3 (OpenSpec.ofChange Rows.fnExactScanSpec) false w args)
      (Rows.fnExactScanSpec.post enc Tryz.prog Tryz.f3 false true false false) := by
  refine returnsInHanded_of_change_and (C := Tryz.checked) (X := fun w _ => laidMetH Tryz.prog Rows.fnExactScanRow.laid w) (fun _ _ _ hh h => h.of_heap hh) own started (by kernel_rfl) Tryz.func3
    (ChangeSpec.witness_shaped (enc := enc) (C := Tryz.checked) (os := os) (X := fun w _ => laidMetH Tryz.prog Rows.fnExactScanRow.laid w) false (World.laidAll Tryz.prog os Rows.fnExactScanRow.laid) #[.agg #[.int .i64 0, .slice none 0 0], .string ByteArray.empty, .string ByteArray.empty, .int .i64 0] 8 (World.laidAll_os _ _ _)
      (World.shaped_of_ZipB (by kernel_rfl) (by kernel_rfl)) (by kernel_rfl) (by kernel_rfl) (by kernel_rfl)
      (by rw [MakeChecks.laidMetH_plain _ _ _ (by kernel_rfl)]; exact laidMet_laidAll _ (by kernel_rfl) (by kernel_rfl))) ?_
  intro W base args ds gs before hval0 hW hcnd _ hL _
  have hval : ∀ (j : Nat) t v, Tryz.f3.params[j]? = some t → args[j]? = some v → Value.okWide Tryz.prog W .any base t v := hval0
  have hW' := hW
  obtain ⟨p, q, hA0, hV, rfl, hfz, hnd⟩ := hW
  have hA : DataW.TrodAll enc Tryz.prog W 0 (fun _ => true) true Tryz.f3.params.toList args.toList ds p := hA0
  rw [Tryz.params3] at hA hval
  obtain ⟨v0, vs0, d0, ds0, p0, q0, hargs, rfl, rfl, h0, r0⟩ := trodAll_cons hA
  obtain ⟨v1, vs1, d1, ds1, p1, q1, rfl, rfl, rfl, h1, r1⟩ := trodAll_cons r0
  obtain ⟨v2, vs2, d2, ds2, p2, q2, rfl, rfl, rfl, h2, r2⟩ := trodAll_cons r1
  obtain ⟨v3, vs3, d3, ds3, p3, q3, rfl, rfl, rfl, h3, r3⟩ := trodAll_cons r2
  obtain ⟨rfl, rfl, rfl⟩ := trodAll_nil r3
  obtain rfl : args = #[v0, v1, v2, v3] := by cases args; simp_all
  obtain ⟨rfl, rfl⟩ := trodVars_none hV
  have k0 := h0
  have lt0 : ∀ x ∈ p0, x.block < W.heap.size := by obtain ⟨m, hm⟩ := k0; exact DataW.trod_lt m _ _ _ hm
  obtain ⟨n0, u0, l0, rfl, w0⟩ := bs_open1 (hval 0 24 v0 rfl rfl) h0
  obtain ⟨a1, rfl, rfl, rfl, w1⟩ := open_string Tryz.underlying9 (hval 1 9 v1 rfl rfl) h1
  obtain ⟨a2, rfl, rfl, rfl, w2⟩ := open_string Tryz.underlying9 (hval 2 9 v2 rfl rfl) h2
  obtain ⟨a3, rfl, rfl, rfl, w3⟩ := open_int Tryz.underlying3 (hval 3 3 v3 rfl rfl) h3
  clear hA0 hval0
  refine (walk n0 u0 l0 a1 a2 a3 W w0.1 w0.2.1 w0.2.2.1 w0.2.2.2 w1 w2 w3).mono fun e W' ⟨he, bel⟩ => ?_
  subst he
  exact ⟨_, rfl, _, _, _, [], _, [], hW', trodAll_mk1 (shut_bool Tryz.underlying4 _), (trodAll_cons_mk (Below.trod laidOut (by kernel_rfl) (of_decide_eq_true (by kernel_rfl)) k0 bel lt0) (trodAll_cons_mk (shut_string Tryz.underlying9 w1) (trodAll_cons_mk (shut_string Tryz.underlying9 w2) (trodAll_cons_mk (shut_int Tryz.underlying3 w3) trodAll_mk0)))), rfl, bel.frame _, fun h => by cases h⟩

theorem over : Rows.fnExactScanRow.holds Tryz.pinned (OpenSpec.ofChange Rows.fnExactScanSpec) :=
  OpenClaim.holds_of_wide 3 Tryz.f3 rfl rfl rfl rfl rfl rfl rfl ⟨rfl, rfl, rfl, rfl, rfl⟩ rfl rfl rfl rfl rfl (by kernel_rfl) Tryz.func3 (by kernel_rfl)
    (of_decide_eq_true (by kernel_rfl)) (by unfold Func.isWrapper; first | (rw [if_pos (by decide +kernel)]; kernel_rfl) | (rw [if_neg (by decide +kernel)]; exact ⟨rfl, rfl⟩))
    (fun os started H enc _ => lifted os started H enc)

theorem proved : Rows.FnExactScanCardSaid :=
  Claim7.holds_tied_plain_at .later [] _ _ _ _ over (fun _ h => by cases h) (by kernel_rfl) (fun _ h => by cases h) fnExactScan_row_tie rfl ⟨rfl, rfl⟩ (by kernel_rfl) rfl
    (fun f fn hf hfn => by
      obtain rfl : f = 3 := Option.some.inj ((show Tryz.prog.funcNamed "loop.example/quincunx/laws.FnExactScan" = some 3 by kernel_rfl).symm.trans hf) |>.symm
      obtain rfl : fn = Tryz.f3 := (Option.some.inj (Tryz.func3.symm.trans hfn)).symm
      exact ⟨by kernel_rfl, fun j t ht => by
        rw [Tryz.params3] at ht
        have hm : t ∈ [24, 9, 3] := by simpa using Array.mem_of_getElem? ht
        have hall : ([24, 9, 3].all fun u => !Tryz.prog.wantsStandIn u) = true := by kernel_rfl
        exact (show Tryz.prog.wantsStandIn t = false by simpa using List.all_eq_true.1 hall t hm)⟩)
    (by kernel_rfl)
end Go.Proofs.YtaiboncomibikaaGreatDoor.fnExactScan
