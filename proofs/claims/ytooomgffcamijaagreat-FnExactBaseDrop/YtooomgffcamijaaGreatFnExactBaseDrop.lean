/- Proved: at every base and key BaseDrop answers as its model, the base and the bool; it writes into no argument; its answer owns its memory, behind another call too. No condition. -/
import Derived.Test.YtooomgffcamijaaGreatDpW2
import Derived.Test.YtooomgffcamijaaGreatMkY
import Derived.Test.YtooomgffcamijaaGreatEnO
import Derived.ProofKit
import Derived.OpenShut
import Derived.ShutString
import Derived.ChangeOld
import Derived.Below
import Derived.Deep.RegionWith
namespace Go.Proofs.YtooomgffcamijaaGreat.fnExactBaseDrop
open Go.ChangeShapes Go.WideShapes Go.ChangeAt Go.RowKit
open Go.ChangeMaps (open_string shut_string)
set_option linter.unusedVariables false

theorem own : ownKnob Tryz.prog.godebug = none := by kernel_rfl
theorem laidOut : laidOutB Tryz.prog = true := by kernel_rfl
theorem row_lt {w : World} {B : Nat} {cs : Array Value} {t : TypeId} (h : w.heap[B]? = some (.cells cs t (0, 0))) : B < w.heap.size := (Array.getElem?_eq_some_iff.1 h).1
theorem res_cells2 {w : World} {B : Nat} {x0 x1 : Value} {t : TypeId} (h : w.heap[B]? = some (.cells #[x0, x1] t (0, 0))) : w.cell? ⟨B, 0, none⟩ = some x0 ∧ w.cell? ⟨B, 1, none⟩ = some x1 :=
  ⟨by rw [cell_of_row _ _ _ _ _ _ h]; rfl, by rw [cell_of_row _ _ _ _ _ _ h]; rfl⟩
theorem below_within {B : Nat} {a w w' : World} {lo hi : Nat} (h : Below B a w) (hw : Within w w' lo hi) (hlo : B ≤ lo ∧ B ≤ w.heap.size) : Below B a w' :=
  ⟨hw.os.trans h.os, hw.tape.trans h.tape, hw.output.trans h.output, Nat.le_trans h.size hw.size, fun i hi => (hw.block i (Nat.lt_of_lt_of_le hi hlo.2) (.inl (by omega))).trans (h.block i hi)⟩
theorem ms_map : ∀ {l m : List Row}, l.map Row.e = m.map Row.e → rowsM l = rowsM m
  | [], [], _ => rfl
  | [], _ :: _, h => by simp at h
  | _ :: _, [], h => by simp at h
  | x :: l, y :: m, h => by
    simp only [List.map_cons, List.cons.injEq] at h
    unfold rowsM rowM
    rw [h.1, ms_map h.2]
theorem ms_erase : ∀ (l : List Row) (k : Nat), rowsM (l.eraseIdx k) ≤ rowsM l
  | [], _ => by simp
  | x :: l, 0 => by
    have hp := rowM_pos x
    show rowsM l ≤ rowM x + rowsM l; omega
  | x :: l, k + 1 => by
    have := ms_erase l k
    show rowM x + rowsM (l.eraseIdx k) ≤ rowM x + rowsM l; omega
theorem drop_rows (n : Int) (l : List Row) (s : ByteArray) : ∃ q : List Row, q.map Row.e = dropL n l s ∧ rowsM q ≤ rowsM l ∧ (∀ x ∈ q, x ∈ l) ∧ q.length ≤ l.length := by
  unfold dropL
  split
  · exact ⟨esWo l s, rfl, ms_erase l _, fun x h => esWo_mem h, esWo_len l s⟩
  · exact ⟨[], rfl, rowsM_pos l, fun x h => (by cases h), Nat.zero_le _⟩
theorem idx_map {l m : List Row} (s : ByteArray) (h : l.map Row.e = m.map Row.e) : esIdx l s = esIdx m s := by
  have e : ∀ q : List Row, esIdx q s = (q.map Row.e).findIdx (fun y => decide (y.key = s)) := fun q => by unfold esIdx; rw [List.findIdx_map]; rfl
  rw [e, e, h]
theorem drop_map (n : Int) {l m : List Row} (s : ByteArray) (h : l.map Row.e = m.map Row.e) : dropN n l = dropN n m ∧ dropL n l s = dropL n m s ∧ dropB n l s = dropB n m s := by
  have hl : l.length = m.length := by have := congrArg List.length h; simpa using this
  unfold dropN dropL dropB esHas esWo
  rw [map_erase, map_erase, idx_map s h, h, hl]
  exact ⟨rfl, rfl, rfl⟩
theorem same_len {l m : List Row} (h : l.map Row.e = m.map Row.e) : l.length = m.length := by have := congrArg List.length h; simpa using this

set_option maxHeartbeats 16000000 in
set_option maxRecDepth 100000 in
theorem walk (n : Int) (v : Value) (l : List Row) (s : ByteArray) (w : World) (hr : EsReads w v l) (hf : ∀ x ∈ l, EnFit x.e) (hlen : l.length ≤ maxLen) (wf : (Lit.int .i64 n).wf = true) (wk : s.size ≤ maxLen) :
    Calls Tryz.prog 3 #[bsV n v, .string s] w fun x w' => x = .returned (.bool true) ∧ Below w.heap.size w w' := by
  obtain ⟨ao, cap, rfl⟩ := readsR_shape hr.rows
  have hn : -9223372036854775808 ≤ n ∧ n ≤ 9223372036854775807 := by simpa [Lit.wf, IntKind.min, IntKind.max, IntKind.signed, IntKind.bits] using wf
  have wg := wk
  unfold maxLen at wg
  have hb0 : Below w.heap.size w (w.alloc (.cells #[.int .i64 n, .slice ao l.length cap] 24)) := (Below.refl _ w).alloc (Nat.le_refl _) _
  rcases Int.lt_or_le (1048576 : Int) (s.size : Int) with hx | hx
  · go_enter Tryz.func3, Tryz.ntmps3
    go_wp2_with fail
    go_ret
    exact ⟨rfl, hb0⟩
  clear wf wk
  go_enter Tryz.func3, Tryz.ntmps3
  go_wp2_with fail
  have q0 : (w.alloc (.cells #[.int .i64 n, .slice ao l.length cap] 24)).heap[w.heap.size]? = some (.cells #[.int .i64 n, .slice ao l.length cap] 24 (0, 0)) := heap_alloc_new _ _
  have hs0 : (w.alloc (.cells #[.int .i64 n, .slice ao l.length cap] 24)).heap.size = w.heap.size + 1 := by simp
  obtain ⟨w0, hW⟩ : ∃ W, w.alloc (.cells #[.int .i64 n, .slice ao l.length cap] 24) = W := ⟨_, rfl⟩
  rw [hW] at hb0 q0 hs0 ⊢
  have t0 : w.heap.size + 1 ≤ w0.heap.size := by omega
  clear hW hs0
  have QAn : Hid _ := q0
  clear q0
  have HB0 := hb0
  clear hb0
  refine (szBaseP_any n _ l _ _ (esReads_kept hr HB0) hf hlen (by omega) (by omega)).mono ?_
  rintro x w1 ⟨⟨m, rfl, hm⟩, hb1⟩
  have QAw1 : Hid _ := (hb1.block w.heap.size (row_lt QAn.out)).trans QAn.out
  have HBw1 := HB0.trans (hb1.mono HB0.size)
  have hzw1 := hb1.size
  clear QAn HB0 hb1
  rcases hm with hm | ⟨hm0, hm1, hs, hmp⟩
  · go_wp2_with fail
    go_ret
    exact ⟨rfl, HBw1⟩
  have hM : rowsM l ≤ 4194304 := by have := rowsM_le l; omega
  obtain ⟨N, hN⟩ : ∃ N, dropN n l = N := ⟨_, rfl⟩
  obtain ⟨b, hb⟩ : ∃ b, dropB n l s = b := ⟨_, rfl⟩
  obtain ⟨Q, hQ, hQm, hQi, hQl⟩ := drop_rows n l s
  have hQs : EsSmall Q := ⟨Nat.le_trans hQl hs.len, fun x hx => hs.each x (hQi x hx)⟩
  have hQM : rowsM Q ≤ 4194304 := Int.le_trans hQm hM
  have HS : Hid (∀ (xs : List Row) (u : Value) (W : World), EsReads W u xs → xs.map Row.e = l.map Row.e → Calls Tryz.prog 5 #[bsV n u, .string s] W fun x W' => (∃ u' ys, x = .returned (.tuple #[bsV N u', .bool b]) ∧ ys.map Row.e = Q.map Row.e ∧ Gr W' W.heap.size u' ys) ∧ Below W.heap.size W W') := fun xs u W hq hmx => by
    have := specBaseDrop_any n u xs s W hq (small_map hmx hs) hn
    rw [(drop_map n s hmx).1, (drop_map n s hmx).2.1, (drop_map n s hmx).2.2, hN, hb, ← hQ] at this
    exact this
  have HI : Hid (∀ (xs : List Row) (u : Value) (W : World), EsReads W u xs → xs.map Row.e = l.map Row.e → Calls Tryz.prog 7 #[bsV n u, .string s] W fun x W' => (∃ u' ys, x = .returned (.tuple #[bsV N u', .bool b]) ∧ ys.map Row.e = Q.map Row.e ∧ Gr W' W.heap.size u' ys) ∧ Below W.heap.size W W') := fun xs u W hq hmx => by
    have := implBaseDrop_any n u xs s W hq (small_map hmx hs)
    rw [(drop_map n s hmx).1, (drop_map n s hmx).2.1, (drop_map n s hmx).2.2, hN, hb, ← hQ] at this
    exact this
  have HTB : Hid (∀ (W : World), Below w.heap.size w W → Calls Tryz.prog 6 #[bsV n (.slice ao l.length cap)] W fun x W' => (∃ v' ys, x = .returned (bsV n v') ∧ ys.map Row.e = l.map Row.e ∧ EsFor W' W.heap.size W'.heap.size v' ys) ∧ Below W.heap.size W W') := fun W hB => toBase_any n _ l W (esReads_kept hr hB) hs
  have HSM := hs
  have hbb : (b != b) = false := by simp
  clear hm1 hmp hlen hf hx wg hN hb hn hQ hQm hQi hQl
  have Ac0 := (res_cells2 QAw1.out).1
  have Ac1 := (res_cells2 QAw1.out).2
  go_wp2_with fail
  refine (HTB.out _ HBw1).mono ?_
  rintro x w2 ⟨⟨u2, xs, rfl, hmxs, hoxs⟩, hbw2⟩
  clear Ac0 Ac1
  have QAw2 : Hid _ := (hbw2.block w.heap.size (row_lt QAw1.out)).trans QAw1.out
  have HBw2 := HBw1.trans (hbw2.mono HBw1.size)
  have hzw2 := hbw2.size
  clear QAw1 HBw1 hbw2
  have hrxs := esFor_reads hoxs
  obtain ⟨bo2, cb2, rfl⟩ := readsR_shape hrxs.rows
  clear hoxs
  go_wp2_with fail
  refine (HS.out xs _ _ hrxs hmxs).mono ?_
  rintro x w3 ⟨⟨_, ws, rfl, hmws, hgws⟩, hbw3⟩
  obtain ⟨wxo, wxc, rfl⟩ := readsR_shape (gr_reads hgws).rows
  have hows := gro_of hgws
  clear hgws
  obtain ⟨a1, ha1⟩ : ∃ B, B = w2.heap.size := ⟨_, rfl⟩
  rw [← ha1] at hows
  have la1 : w2.heap.size ≤ a1 := by omega
  have ra1 : a1 ≤ w2.heap.size := by omega
  clear ha1
  have QAw3 : Hid _ := (hbw3.block w.heap.size (row_lt QAw2.out)).trans QAw2.out
  have HBw3 := HBw2.trans (hbw3.mono HBw2.size)
  have hzw3 := hbw3.size
  clear QAw2 HBw2 hbw3
  obtain ⟨b1, hb1'⟩ : ∃ B, B = w3.heap.size := ⟨_, rfl⟩
  rw [← hb1'] at hows
  have lb1 : w3.heap.size ≤ b1 := by omega
  have rb1 : b1 ≤ w3.heap.size := by omega
  clear hb1'
  clear hrxs hmxs
  have TA : (w3.alloc (.cells #[.int .i64 N, .slice wxo ws.length wxc] 28)).heap[w.heap.size]? = _ := (Below.heap_alloc _ _ _ (row_lt QAw3.out)).trans QAw3.out
  have Ac0 := (res_cells2 TA).1
  have Ac1 := (res_cells2 TA).2
  clear TA
  go_wp2_with fail
  clear Ac0 Ac1
  have hbw4 : Below w3.heap.size w3 (w3.alloc (.cells #[.int .i64 N, .slice wxo ws.length wxc] 28)) := (Below.refl _ w3).alloc (Nat.le_refl _) _
  have qw4 : (w3.alloc (.cells #[.int .i64 N, .slice wxo ws.length wxc] 28)).heap[w3.heap.size]? = some (.cells #[.int .i64 N, .slice wxo ws.length wxc] 28 (0, 0)) := heap_alloc_new _ _
  have hsw4 : (w3.alloc (.cells #[.int .i64 N, .slice wxo ws.length wxc] 28)).heap.size = w3.heap.size + 1 := by simp
  obtain ⟨w4, hW⟩ : ∃ W, w3.alloc (.cells #[.int .i64 N, .slice wxo ws.length wxc] 28) = W := ⟨_, rfl⟩
  rw [hW] at hbw4 qw4 hsw4 ⊢
  clear hW
  obtain ⟨BW, hBW⟩ : ∃ B, B = w3.heap.size := ⟨_, rfl⟩
  rw [← hBW] at qw4 ⊢
  have lBW : w3.heap.size ≤ BW := by omega
  have rBW : BW ≤ w3.heap.size := by omega
  have tw4 : w3.heap.size + 1 ≤ w4.heap.size := by omega
  clear hBW hsw4
  have QWn : Hid _ := qw4
  clear qw4
  have QAw4 : Hid _ := (hbw4.block w.heap.size (row_lt QAw3.out)).trans QAw3.out
  have OWw4 := gro_kept hows hbw4
  have HBw4 := HBw3.trans (hbw4.mono HBw3.size)
  have hzw4 := hbw4.size
  clear QAw3 hows HBw3 hbw4
  refine (HTB.out _ HBw4).mono ?_
  rintro x w5 ⟨⟨_, ys, rfl, hmys, hoys⟩, hb5⟩
  obtain ⟨yo, yc, rfl⟩ := readsR_shape (esFor_reads hoys).rows
  obtain ⟨a2, ha2⟩ : ∃ B, B = w4.heap.size := ⟨_, rfl⟩
  rw [← ha2] at hoys
  have la2 : w4.heap.size ≤ a2 := by omega
  have ra2 : a2 ≤ w4.heap.size := by omega
  clear ha2
  have QAw5 : Hid _ := (hb5.block w.heap.size (row_lt QAw4.out)).trans QAw4.out
  have QWw5 : Hid _ := (hb5.block BW (row_lt QWn.out)).trans QWn.out
  have OWw5 := gro_kept OWw4 hb5
  have HBw5 := HBw4.trans (hb5.mono HBw4.size)
  have hzw5 := hb5.size
  clear QAw4 QWn OWw4 HBw4 hb5
  obtain ⟨b2, hb2'⟩ : ∃ B, B = w5.heap.size := ⟨_, rfl⟩
  rw [← hb2'] at hoys
  have lb2 : w5.heap.size ≤ b2 := by omega
  have rb2 : b2 ≤ w5.heap.size := by omega
  clear hb2'
  go_wp2_with fail
  have hbw6 : Below w5.heap.size w5 (w5.alloc (.cells #[.int .i64 n, .slice yo ys.length yc] 28)) := (Below.refl _ w5).alloc (Nat.le_refl _) _
  have qw6 : (w5.alloc (.cells #[.int .i64 n, .slice yo ys.length yc] 28)).heap[w5.heap.size]? = some (.cells #[.int .i64 n, .slice yo ys.length yc] 28 (0, 0)) := heap_alloc_new _ _
  have hsw6 : (w5.alloc (.cells #[.int .i64 n, .slice yo ys.length yc] 28)).heap.size = w5.heap.size + 1 := by simp
  obtain ⟨w6, hW⟩ : ∃ W, w5.alloc (.cells #[.int .i64 n, .slice yo ys.length yc] 28) = W := ⟨_, rfl⟩
  rw [hW] at hbw6 qw6 hsw6 ⊢
  clear hW
  obtain ⟨BX, hBX⟩ : ∃ B, B = w5.heap.size := ⟨_, rfl⟩
  rw [← hBX] at qw6 ⊢
  have lBX : w5.heap.size ≤ BX := by omega
  have rBX : BX ≤ w5.heap.size := by omega
  have tw6 : w5.heap.size + 1 ≤ w6.heap.size := by omega
  clear hBX hsw6
  have QXn : Hid _ := qw6
  clear qw6
  have QAw6 : Hid _ := (hbw6.block w.heap.size (row_lt QAw5.out)).trans QAw5.out
  have QWw6 : Hid _ := (hbw6.block BW (row_lt QWw5.out)).trans QWw5.out
  have OWw6 := gro_kept OWw5 hbw6
  have OXw6 := esFor_kept hoys hbw6
  have HBw6 := HBw5.trans (hbw6.mono HBw5.size)
  have hzw6 := hbw6.size
  clear QAw5 QWw5 OWw5 hoys HBw5 hbw6
  have hrys := esFor_reads OXw6
  refine (HI.out ys _ _ hrys hmys).mono ?_
  rintro x w7 ⟨⟨_, gs, rfl, hmgs, hggs⟩, hbw7⟩
  obtain ⟨gxo, gxc, rfl⟩ := readsR_shape (gr_reads hggs).rows
  have hogs := gro_of hggs
  clear hggs
  obtain ⟨a3, ha3⟩ : ∃ B, B = w6.heap.size := ⟨_, rfl⟩
  rw [← ha3] at hogs
  have la3 : w6.heap.size ≤ a3 := by omega
  have ra3 : a3 ≤ w6.heap.size := by omega
  clear ha3
  have QAw7 : Hid _ := (hbw7.block w.heap.size (row_lt QAw6.out)).trans QAw6.out
  have QWw7 : Hid _ := (hbw7.block BW (row_lt QWw6.out)).trans QWw6.out
  have QXw7 : Hid _ := (hbw7.block BX (row_lt QXn.out)).trans QXn.out
  have OWw7 := gro_kept OWw6 hbw7
  have OXw7 := esFor_kept OXw6 hbw7
  have HBw7 := HBw6.trans (hbw7.mono HBw6.size)
  have hzw7 := hbw7.size
  clear QAw6 QWw6 QXn OWw6 OXw6 HBw6 hbw7
  obtain ⟨b3, hb3'⟩ : ∃ B, B = w7.heap.size := ⟨_, rfl⟩
  rw [← hb3'] at hogs
  have lb3 : w7.heap.size ≤ b3 := by omega
  have rb3 : b3 ≤ w7.heap.size := by omega
  clear hb3'
  clear hrys
  have TW : (w7.alloc (.cells #[.int .i64 N, .slice gxo gs.length gxc] 28)).heap[BW]? = _ := (Below.heap_alloc _ _ _ (row_lt QWw7.out)).trans QWw7.out
  have Wc0 := (res_cells2 TW).1
  have Wc1 := (res_cells2 TW).2
  clear TW
  go_wp2_with fail
  clear Wc0 Wc1
  have hbw8 : Below w7.heap.size w7 (w7.alloc (.cells #[.int .i64 N, .slice gxo gs.length gxc] 28)) := (Below.refl _ w7).alloc (Nat.le_refl _) _
  have qw8 : (w7.alloc (.cells #[.int .i64 N, .slice gxo gs.length gxc] 28)).heap[w7.heap.size]? = some (.cells #[.int .i64 N, .slice gxo gs.length gxc] 28 (0, 0)) := heap_alloc_new _ _
  have hsw8 : (w7.alloc (.cells #[.int .i64 N, .slice gxo gs.length gxc] 28)).heap.size = w7.heap.size + 1 := by simp
  obtain ⟨w8, hW⟩ : ∃ W, w7.alloc (.cells #[.int .i64 N, .slice gxo gs.length gxc] 28) = W := ⟨_, rfl⟩
  rw [hW] at hbw8 qw8 hsw8 ⊢
  clear hW
  obtain ⟨BG, hBG⟩ : ∃ B, B = w7.heap.size := ⟨_, rfl⟩
  rw [← hBG] at qw8 ⊢
  have lBG : w7.heap.size ≤ BG := by omega
  have rBG : BG ≤ w7.heap.size := by omega
  have tw8 : w7.heap.size + 1 ≤ w8.heap.size := by omega
  clear hBG hsw8
  have QGn : Hid _ := qw8
  clear qw8
  have QAw8 : Hid _ := (hbw8.block w.heap.size (row_lt QAw7.out)).trans QAw7.out
  have QWw8 : Hid _ := (hbw8.block BW (row_lt QWw7.out)).trans QWw7.out
  have QXw8 : Hid _ := (hbw8.block BX (row_lt QXw7.out)).trans QXw7.out
  have OWw8 := gro_kept OWw7 hbw8
  have OXw8 := esFor_kept OXw7 hbw8
  have OGw8 := gro_kept hogs hbw8
  have HBw8 := HBw7.trans (hbw8.mono HBw7.size)
  have hzw8 := hbw8.size
  clear QAw7 QWw7 QXw7 OWw7 OXw7 hogs HBw7 hbw8
  have HQS := hQs
  refine (eqBase_true N _ _ gs ws _ (gro_reads OGw8) (gro_reads OWw8) (small_map hmgs hQs) (hmgs.trans hmws.symm)).mono ?_
  rintro x w9 ⟨rfl, hb9⟩
  have QAw9 : Hid _ := (hb9.block w.heap.size (row_lt QAw8.out)).trans QAw8.out
  have QWw9 : Hid _ := (hb9.block BW (row_lt QWw8.out)).trans QWw8.out
  have QXw9 : Hid _ := (hb9.block BX (row_lt QXw8.out)).trans QXw8.out
  have QGw9 : Hid _ := (hb9.block BG (row_lt QGn.out)).trans QGn.out
  have OWw9 := gro_kept OWw8 hb9
  have OXw9 := esFor_kept OXw8 hb9
  have OGw9 := gro_kept OGw8 hb9
  have HBw9 := HBw8.trans (hb9.mono HBw8.size)
  have hzw9 := hb9.size
  clear QAw8 QWw8 QXw8 QGn OWw8 OXw8 OGw8 HBw8 hb9
  have HSX : Hid (∀ w', Below w9.heap.size w9 w' → Below w9.heap.size w9 w' ∧ w'.cell? ⟨w.heap.size, 0, none⟩ = some (.int .i64 n) ∧ w'.cell? ⟨w.heap.size, 1, none⟩ = some (.slice ao l.length cap) ∧ w'.cell? ⟨BX, 0, none⟩ = some (.int .i64 n) ∧ w'.cell? ⟨BX, 1, none⟩ = some (.slice yo ys.length yc)) := fun w' h =>
    ⟨h, (res_cells2 ((h.block w.heap.size (row_lt QAw9.out)).trans QAw9.out)).1, (res_cells2 ((h.block w.heap.size (row_lt QAw9.out)).trans QAw9.out)).2, (res_cells2 ((h.block BX (row_lt QXw9.out)).trans QXw9.out)).1, (res_cells2 ((h.block BX (row_lt QXw9.out)).trans QXw9.out)).2⟩
  go_wp2_with fail
  refine wp_region_held_drew (S := (fun w' => Below w9.heap.size w9 w' ∧ w'.cell? ⟨w.heap.size, 0, none⟩ = some (.int .i64 n) ∧ w'.cell? ⟨w.heap.size, 1, none⟩ = some (.slice ao l.length cap) ∧ w'.cell? ⟨BX, 0, none⟩ = some (.int .i64 n) ∧ w'.cell? ⟨BX, 1, none⟩ = some (.slice yo ys.length yc))) (by kernel_rfl) (by exact HSX.out _ (Below.refl _ _).drew) (fun hHeld => ?_)
  refine takeH (i := 0) (d := (some 48)) (v := ?_) rfl rfl (by kernel_rfl) (by kernel_rfl) (by kernel_rfl) (fun _ _ _ h => h) (by kernel_rfl) ?_ (by assumption) ?_
  rotate_left
  · (intro w hSw; (try dsimp only at hSw); go_simp; try with_reducible rfl)
  try simp only [Act.put, List.setIfInBounds_toArray, List.set_cons_succ, List.set_cons_zero]
  refine takeH (i := 1) (d := (some 49)) (v := ?_) rfl rfl (by kernel_rfl) (by kernel_rfl) (by kernel_rfl) (fun _ _ _ h => h) (by kernel_rfl) ?_ (by assumption) ?_
  rotate_left
  · (intro w hSw; (try dsimp only at hSw); go_simp; try with_reducible rfl)
  try simp only [Act.put, List.setIfInBounds_toArray, List.set_cons_succ, List.set_cons_zero]
  refine wpAnyH_ready (rs := [2]) (by kernel_rfl) (by simp) ?_
  refine AllReadyH.cons rfl (fun K hK => ?_) AllReadyH.nil
  go_simp
  refine (HTB.out _ (HBw9.trans (hHeld.1.mono HBw9.size))).mono ?_; rintro x w10 ⟨⟨u6, zs, he, hmz, ho⟩, hb10⟩; subst he; have h10 := hHeld.1.trans (hb10.mono hHeld.1.size); have ry := esFor_reads ho; obtain ⟨go_, gc, rfl⟩ := readsR_shape ry.rows; have HMZ : Hid (ys.map Row.e = zs.map Row.e) := (hmys.trans hmz.symm); clear ho hb10 hmz
  refine hK.out _ _ ?_ (fun hHeld => ?_)
  · exact HSX.out _ h10
  clear hK K
  try simp only [Act.put, List.setIfInBounds_toArray, List.set_cons_succ, List.set_cons_zero]
  refine wpAnyH_ready (rs := [3]) (by kernel_rfl) (by simp) ?_
  refine AllReadyH.cons rfl (fun K hK => ?_) AllReadyH.nil
  go_simp
  refine (eqBase_true n _ _ ys zs _ (esReads_kept (esFor_reads OXw9) h10) ry (small_map hmys HSM) HMZ.out).mono ?_; rintro x w11 ⟨he, hb11⟩; subst he; have h11 := h10.trans (hb11.mono h10.size)
  refine hK.out _ _ ?_ (fun hHeld => ?_)
  · exact HSX.out _ h11
  clear hK K
  try simp only [Act.put, List.setIfInBounds_toArray, List.set_cons_succ, List.set_cons_zero]
  refine takeH (i := 4) (d := (some 52)) (v := ?_) rfl rfl (by kernel_rfl) (by kernel_rfl) (by kernel_rfl) (fun _ _ _ h => h) (by kernel_rfl) ?_ (by assumption) ?_
  rotate_left
  · (intro w hSw; (try dsimp only at hSw); go_simp; try with_reducible rfl)
  try simp only [Act.put, List.setIfInBounds_toArray, List.set_cons_succ, List.set_cons_zero]
  refine wpAnyH_done (by kernel_rfl) ?_ _
  have QAw11 : Hid _ := (h11.block w.heap.size (row_lt QAw9.out)).trans QAw9.out
  have QWw11 : Hid _ := (h11.block BW (row_lt QWw9.out)).trans QWw9.out
  have QXw11 : Hid _ := (h11.block BX (row_lt QXw9.out)).trans QXw9.out
  have QGw11 : Hid _ := (h11.block BG (row_lt QGw9.out)).trans QGw9.out
  have OWw11 := gro_kept OWw9 h11
  have OXw11 := esFor_kept OXw9 h11
  have OGw11 := gro_kept OGw9 h11
  have HBw11 := HBw9.trans (h11.mono HBw9.size)
  have hzw11 := h11.size
  clear QAw9 QWw9 QXw9 QGw9 OWw9 OXw9 OGw9 HBw9 h11
  have Xc0 := (res_cells2 QXw11.out).1
  have Xc1 := (res_cells2 QXw11.out).2
  go_wp2_with fail
  clear Xc0 Xc1
  refine (markBase_any n _ ys a2 b2 _ OXw11 (by omega) (by rw [ms_map hmys]; exact hM) (small_map hmys HSM).each).mono ?_
  rintro x w12 ⟨⟨k, rfl, hk⟩, hv12⟩
  have QAw12 : Hid _ := (hv12.block w.heap.size (row_lt QAw11.out) (by omega)).trans QAw11.out
  have QWw12 : Hid _ := (hv12.block BW (row_lt QWw11.out) (by omega)).trans QWw11.out
  have QXw12 : Hid _ := (hv12.block BX (row_lt QXw11.out) (by omega)).trans QXw11.out
  have QGw12 : Hid _ := (hv12.block BG (row_lt QGw11.out) (by omega)).trans QGw11.out
  have OWw12 := gro_within OWw11 hv12 (by omega)
  have OGw12 := gro_within OGw11 hv12 (by omega)
  have HBw12 := below_within HBw11 hv12 (by omega)
  have hzw12 := hv12.size
  clear QAw11 QWw11 QXw11 QGw11 OWw11 OGw11 HBw11 hv12
  have Gc0 := (res_cells2 QGw12.out).1
  have Gc1 := (res_cells2 QGw12.out).2
  have Wc0 := (res_cells2 QWw12.out).1
  have Wc1 := (res_cells2 QWw12.out).2
  go_wp2_with fail
  clear Gc0 Gc1 Wc0 Wc1
  refine (eqBase_true N _ _ gs ws _ (gro_reads OGw12) (gro_reads OWw12) (small_map hmgs hQs) (hmgs.trans hmws.symm)).mono ?_
  rintro x w13 ⟨rfl, hb13⟩
  have QAw13 : Hid _ := (hb13.block w.heap.size (row_lt QAw12.out)).trans QAw12.out
  have QWw13 : Hid _ := (hb13.block BW (row_lt QWw12.out)).trans QWw12.out
  have QXw13 : Hid _ := (hb13.block BX (row_lt QXw12.out)).trans QXw12.out
  have QGw13 : Hid _ := (hb13.block BG (row_lt QGw12.out)).trans QGw12.out
  have OWw13 := gro_kept OWw12 hb13
  have OGw13 := gro_kept OGw12 hb13
  have HBw13 := HBw12.trans (hb13.mono HBw12.size)
  have hzw13 := hb13.size
  clear QAw12 QWw12 QXw12 QGw12 OWw12 OGw12 HBw12 hb13
  have Gc0 := (res_cells2 QGw13.out).1
  have Gc1 := (res_cells2 QGw13.out).2
  go_wp2_with fail
  clear Gc0 Gc1
  have hgm : rowsM gs ≤ 4194304 := by rw [ms_map hmgs]; exact hQM
  have hgs := small_map hmgs hQs
  have hgp : 0 ≤ rowsM gs := rowsM_pos gs
  refine (markBaseG_any N _ gs a3 b3 _ OGw13 (by omega) hgm hgs.each).mono ?_
  rintro x w14 ⟨rfl, hg14, hv14⟩
  have QAw14 : Hid _ := (hv14.block w.heap.size (row_lt QAw13.out) (by omega)).trans QAw13.out
  have QWw14 : Hid _ := (hv14.block BW (row_lt QWw13.out) (by omega)).trans QWw13.out
  have QXw14 : Hid _ := (hv14.block BX (row_lt QXw13.out) (by omega)).trans QXw13.out
  have QGw14 : Hid _ := (hv14.block BG (row_lt QGw13.out) (by omega)).trans QGw13.out
  have OWw14 := gro_within OWw13 hv14 (by omega)
  have HBw14 := below_within HBw13 hv14 (by omega)
  have hzw14 := hv14.size
  clear QAw13 QWw13 QXw13 QGw13 OWw13 HBw13 hv14
  clear OGw13
  have Gc0 := (res_cells2 QGw14.out).1
  have Gc1 := (res_cells2 QGw14.out).2
  go_wp2_with fail
  clear Gc0 Gc1
  refine (heldBaseG_any N _ gs _ (gro_reads hg14) hgm hgs.each).mono ?_
  rintro x w15 ⟨rfl, hb15⟩
  have QAw15 : Hid _ := (hb15.block w.heap.size (row_lt QAw14.out)).trans QAw14.out
  have QWw15 : Hid _ := (hb15.block BW (row_lt QWw14.out)).trans QWw14.out
  have QXw15 : Hid _ := (hb15.block BX (row_lt QXw14.out)).trans QXw14.out
  have QGw15 : Hid _ := (hb15.block BG (row_lt QGw14.out)).trans QGw14.out
  have OWw15 := gro_kept OWw14 hb15
  have OGw15 := gro_kept hg14 hb15
  have HBw15 := HBw14.trans (hb15.mono HBw14.size)
  have hzw15 := hb15.size
  clear QAw14 QWw14 QXw14 QGw14 OWw14 hg14 HBw14 hb15
  have hq1 : decide (1 + rowsM gs < 0) = false := by rw [decide_eq_false_iff_not]; omega
  have Ac0 := (res_cells2 QAw15.out).1
  have Ac1 := (res_cells2 QAw15.out).2
  go_wp2_with fail
  clear Ac0 Ac1
  refine (HTB.out _ HBw15).mono ?_
  rintro x w16 ⟨⟨_, ts, rfl, hmts, hots⟩, hb16⟩
  have hrts := esFor_reads hots
  obtain ⟨to_, tc, rfl⟩ := readsR_shape hrts.rows
  have QAw16 : Hid _ := (hb16.block w.heap.size (row_lt QAw15.out)).trans QAw15.out
  have QWw16 : Hid _ := (hb16.block BW (row_lt QWw15.out)).trans QWw15.out
  have QXw16 : Hid _ := (hb16.block BX (row_lt QXw15.out)).trans QXw15.out
  have QGw16 : Hid _ := (hb16.block BG (row_lt QGw15.out)).trans QGw15.out
  have OWw16 := gro_kept OWw15 hb16
  have OGw16 := gro_kept OGw15 hb16
  have HBw16 := HBw15.trans (hb16.mono HBw15.size)
  have hzw16 := hb16.size
  clear QAw15 QWw15 QXw15 QGw15 OWw15 OGw15 HBw15 hb16
  go_wp2_with fail
  refine (HI.out ts _ _ hrts hmts).mono ?_
  rintro x w17 ⟨⟨_, us, rfl, hmus, hgus⟩, hbw17⟩
  obtain ⟨kxo, kxc, rfl⟩ := readsR_shape (gr_reads hgus).rows
  have hous := gro_of hgus
  clear hgus
  obtain ⟨a4, ha4⟩ : ∃ B, B = w16.heap.size := ⟨_, rfl⟩
  rw [← ha4] at hous
  have la4 : w16.heap.size ≤ a4 := by omega
  have ra4 : a4 ≤ w16.heap.size := by omega
  clear ha4
  have QAw17 : Hid _ := (hbw17.block w.heap.size (row_lt QAw16.out)).trans QAw16.out
  have QWw17 : Hid _ := (hbw17.block BW (row_lt QWw16.out)).trans QWw16.out
  have QXw17 : Hid _ := (hbw17.block BX (row_lt QXw16.out)).trans QXw16.out
  have QGw17 : Hid _ := (hbw17.block BG (row_lt QGw16.out)).trans QGw16.out
  have OWw17 := gro_kept OWw16 hbw17
  have OGw17 := gro_kept OGw16 hbw17
  have HBw17 := HBw16.trans (hbw17.mono HBw16.size)
  have hzw17 := hbw17.size
  clear QAw16 QWw16 QXw16 QGw16 OWw16 OGw16 HBw16 hbw17
  obtain ⟨b4, hb4'⟩ : ∃ B, B = w17.heap.size := ⟨_, rfl⟩
  rw [← hb4'] at hous
  have lb4 : w17.heap.size ≤ b4 := by omega
  have rb4 : b4 ≤ w17.heap.size := by omega
  clear hb4'
  clear hots hmts hrts
  have TW : (w17.alloc (.cells #[.int .i64 N, .slice kxo us.length kxc] 28)).heap[BW]? = _ := (Below.heap_alloc _ _ _ (row_lt QWw17.out)).trans QWw17.out
  have Wc0 := (res_cells2 TW).1
  have Wc1 := (res_cells2 TW).2
  clear TW
  go_wp2_with fail
  clear Wc0 Wc1
  have hbw18 : Below w17.heap.size w17 (w17.alloc (.cells #[.int .i64 N, .slice kxo us.length kxc] 28)) := (Below.refl _ w17).alloc (Nat.le_refl _) _
  have qw18 : (w17.alloc (.cells #[.int .i64 N, .slice kxo us.length kxc] 28)).heap[w17.heap.size]? = some (.cells #[.int .i64 N, .slice kxo us.length kxc] 28 (0, 0)) := heap_alloc_new _ _
  have hsw18 : (w17.alloc (.cells #[.int .i64 N, .slice kxo us.length kxc] 28)).heap.size = w17.heap.size + 1 := by simp
  obtain ⟨w18, hW⟩ : ∃ W, w17.alloc (.cells #[.int .i64 N, .slice kxo us.length kxc] 28) = W := ⟨_, rfl⟩
  rw [hW] at hbw18 qw18 hsw18 ⊢
  clear hW
  obtain ⟨BH, hBH⟩ : ∃ B, B = w17.heap.size := ⟨_, rfl⟩
  rw [← hBH] at qw18 ⊢
  have lBH : w17.heap.size ≤ BH := by omega
  have rBH : BH ≤ w17.heap.size := by omega
  have tw18 : w17.heap.size + 1 ≤ w18.heap.size := by omega
  clear hBH hsw18
  have QHn : Hid _ := qw18
  clear qw18
  have QAw18 : Hid _ := (hbw18.block w.heap.size (row_lt QAw17.out)).trans QAw17.out
  have QWw18 : Hid _ := (hbw18.block BW (row_lt QWw17.out)).trans QWw17.out
  have QXw18 : Hid _ := (hbw18.block BX (row_lt QXw17.out)).trans QXw17.out
  have QGw18 : Hid _ := (hbw18.block BG (row_lt QGw17.out)).trans QGw17.out
  have OWw18 := gro_kept OWw17 hbw18
  have OGw18 := gro_kept OGw17 hbw18
  have OHw18 := gro_kept hous hbw18
  have HBw18 := HBw17.trans (hbw18.mono HBw17.size)
  have hzw18 := hbw18.size
  clear QAw17 QWw17 QXw17 QGw17 OWw17 OGw17 hous HBw17 hbw18
  refine (eqBase_true N _ _ us ws _ (gro_reads OHw18) (gro_reads OWw18) (small_map hmus hQs) (hmus.trans hmws.symm)).mono ?_
  rintro x w19 ⟨rfl, hb19⟩
  have QAw19 : Hid _ := (hb19.block w.heap.size (row_lt QAw18.out)).trans QAw18.out
  have QWw19 : Hid _ := (hb19.block BW (row_lt QWw18.out)).trans QWw18.out
  have QXw19 : Hid _ := (hb19.block BX (row_lt QXw18.out)).trans QXw18.out
  have QGw19 : Hid _ := (hb19.block BG (row_lt QGw18.out)).trans QGw18.out
  have QHw19 : Hid _ := (hb19.block BH (row_lt QHn.out)).trans QHn.out
  have OWw19 := gro_kept OWw18 hb19
  have OGw19 := gro_kept OGw18 hb19
  have OHw19 := gro_kept OHw18 hb19
  have HBw19 := HBw18.trans (hb19.mono HBw18.size)
  have hzw19 := hb19.size
  clear QAw18 QWw18 QXw18 QGw18 QHn OWw18 OGw18 OHw18 HBw18 hb19
  have Gc0 := (res_cells2 QGw19.out).1
  have Gc1 := (res_cells2 QGw19.out).2
  go_wp2_with fail
  clear Gc0 Gc1
  refine (heldBaseG_any N _ gs _ (gro_reads OGw19) hgm hgs.each).mono ?_
  rintro x w20 ⟨rfl, hb20⟩
  have QAw20 : Hid _ := (hb20.block w.heap.size (row_lt QAw19.out)).trans QAw19.out
  have QWw20 : Hid _ := (hb20.block BW (row_lt QWw19.out)).trans QWw19.out
  have QXw20 : Hid _ := (hb20.block BX (row_lt QXw19.out)).trans QXw19.out
  have QGw20 : Hid _ := (hb20.block BG (row_lt QGw19.out)).trans QGw19.out
  have QHw20 : Hid _ := (hb20.block BH (row_lt QHw19.out)).trans QHw19.out
  have OWw20 := gro_kept OWw19 hb20
  have OGw20 := gro_kept OGw19 hb20
  have OHw20 := gro_kept OHw19 hb20
  have HBw20 := HBw19.trans (hb20.mono HBw19.size)
  have hzw20 := hb20.size
  clear QAw19 QWw19 QXw19 QGw19 QHw19 OWw19 OGw19 OHw19 HBw19 hb20
  go_wp2_with fail
  go_ret
  exact ⟨rfl, HBw20⟩

set_option maxRecDepth 100000 in
theorem lifted (os : Os) (started : os.Started) (H : Type) (enc : TypeId × Value → H) :
    ReturnsInHanded {} Tryz.checked os 3 .any (Rows.fnExactBaseDropSpec.pre6 enc Tryz.prog Tryz.f3 Rows.fnExactBaseDropRow.domain false) (Rows.fnExactBaseDropSpec.post enc Tryz.prog Tryz.f3 false true false false) := by
  refine returnsInHanded_of_change (C := Tryz.checked) own started (by kernel_rfl) Tryz.func3
    (ChangeSpec.witness6 (enc := enc) (C := Tryz.checked) false ⟨#[], #[.agg #[.int .i64 0, .slice none 0 0], .string ByteArray.empty], []⟩ 8 (by kernel_rfl) (by kernel_rfl) (by kernel_rfl) (by kernel_rfl)) ?_
  intro W base args ds gs before hval0 hW hcnd _
  have hval : ∀ (j : Nat) t v, Tryz.f3.params[j]? = some t → args[j]? = some v → Value.okWide Tryz.prog W .any base t v := hval0
  have hW' := hW
  obtain ⟨p, q, hA0, hV, rfl, hfz, hnd⟩ := hW
  have hA : DataW.TrodAll enc Tryz.prog W 0 (fun _ => true) true Tryz.f3.params.toList args.toList ds p := hA0
  rw [Tryz.params3] at hA hval
  obtain ⟨v0, vs0, d0, ds0, p0, q0, hargs, rfl, rfl, h0, r0⟩ := trodAll_cons hA
  obtain ⟨v1, vs1, d1, ds1, p1, q1, rfl, rfl, rfl, h1, r1⟩ := trodAll_cons r0
  obtain ⟨rfl, rfl, rfl⟩ := trodAll_nil r1
  obtain rfl : args = #[v0, v1] := by cases args; simp_all
  obtain ⟨rfl, rfl⟩ := trodVars_none hV
  have k0 := h0
  have lt0 : ∀ x ∈ p0, x.block < W.heap.size := by obtain ⟨m, hm⟩ := k0; exact DataW.trod_lt m _ _ _ hm
  obtain ⟨n0, u0, l0, rfl, w0⟩ := bs_open1 (hval 0 24 v0 rfl rfl) h0
  obtain ⟨a1, rfl, rfl, rfl, w1⟩ := open_string Tryz.underlying9 (hval 1 9 v1 rfl rfl) h1
  clear hA0 hval0
  refine (walk n0 u0 l0 a1 W w0.1 w0.2.1 w0.2.2.1 w0.2.2.2 w1).mono fun e W' ⟨he, bel⟩ => ?_
  subst he
  exact ⟨_, rfl, _, _, _, [], _, [], hW', trodAll_mk1 (shut_bool Tryz.underlying4 _), (trodAll_cons_mk (Below.trod laidOut (by kernel_rfl) (of_decide_eq_true (by kernel_rfl)) k0 bel lt0) (trodAll_cons_mk (shut_string Tryz.underlying9 w1) trodAll_mk0)), rfl, bel.frame _, fun h => by cases h⟩

theorem over : Rows.fnExactBaseDropRow.holds Tryz.pinned (OpenSpec.ofChange Rows.fnExactBaseDropSpec) :=
  OpenClaim.holds_of_wide 3 Tryz.f3 rfl rfl rfl rfl rfl rfl rfl ⟨rfl, rfl, rfl, rfl, rfl⟩ rfl rfl rfl rfl rfl (by kernel_rfl) Tryz.func3 (by kernel_rfl)
    (of_decide_eq_true (by kernel_rfl)) (by unfold Func.isWrapper; first | (rw [if_pos (by decide +kernel)]; kernel_rfl) | (rw [if_neg (by decide +kernel)]; exact ⟨rfl, rfl⟩))
    (fun os started H enc _ => lifted os started H enc)

theorem proved : Rows.FnExactBaseDropSaid := over
end Go.Proofs.YtooomgffcamijaaGreat.fnExactBaseDrop
