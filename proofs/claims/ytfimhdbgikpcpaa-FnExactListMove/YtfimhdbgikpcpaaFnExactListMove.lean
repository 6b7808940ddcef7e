/- Proved: at every two lists of texts, and either ends, ListMove answers as its model, field by field; it writes into no argument; its answers own their memory, each its own, behind another call too. No condition. -/
import Derived.Test.YtfimhdbgikpcpaaMvI
import Derived.ProofKit
import Derived.OpenShut
import Derived.ShutString
import Derived.ChangeOld
import Derived.Below
import Derived.Deep.RegionWith
namespace Go.Proofs.Ytfimhdbgikpcpaa.fnExactListMove
open Go.ChangeShapes Go.WideShapes Go.ChangeAt Go.RowKit
open Go.ChangeMaps (open_string shut_string)
set_option linter.unusedVariables false

theorem own : ownKnob Try.prog.godebug = none := by kernel_rfl
theorem laidOut : laidOutB Try.prog = true := by kernel_rfl

theorem res_len0 (l m : List ByteArray) (a b : Bool) (h : l.length ≤ 1048576) (h2 : m.length ≤ 1048576) : (movA l m a).length ≤ 1048576 := movA_len l m a h
theorem res_len1 (l m : List ByteArray) (a b : Bool) (h : l.length ≤ 1048576) (h2 : m.length ≤ 1048576) : (movR l m a b).length ≤ 1048576 := movR_len l m a b h2
theorem spec_any (v : Value) (l : List ByteArray) (u : Value) (m : List ByteArray) (a b : Bool) (w : World) (hr : Reads w v l) (hlen : l.length ≤ 1048576) (hq : Reads w u m) (hlen2 : m.length ≤ 1048576) :
    Calls Try.prog 7 #[v, u, .bool a, .bool b] w fun e w' => ∃ x y, e = .returned (.tuple #[x, y, .bool (movB l m a)]) ∧ Two w w' x y (movA l m a) (movR l m a b) ∧ Below w.heap.size w w' :=
  specMove_any v u l m a b w hr hq hlen hlen2
theorem impl_any (v : Value) (l : List ByteArray) (u : Value) (m : List ByteArray) (a b : Bool) (w : World) (hr : Reads w v l) (hlen : l.length ≤ 1048576) (hq : Reads w u m) (hlen2 : m.length ≤ 1048576) :
    Calls Try.prog 9 #[v, u, .bool a, .bool b] w fun e w' => ∃ x y, e = .returned (.tuple #[x, y, .bool (movB l m a)]) ∧ Two w w' x y (movA l m a) (movR l m a b) ∧ Below w.heap.size w w' :=
  implMove_any v u l m a b w hr hq hlen hlen2

set_option maxRecDepth 100000 in
set_option maxHeartbeats 8000000 in
theorem walk (v0 : Value) (l0 : List ByteArray) (v1 : Value) (l1 : List ByteArray) (a2 : Bool) (a3 : Bool) (w : World) (hr0 : Reads w v0 l0) (hs0 : ∀ s ∈ l0, s.size ≤ maxLen) (hlen0 : l0.length ≤ maxLen) (hr1 : Reads w v1 l1) (hs1 : ∀ s ∈ l1, s.size ≤ maxLen) (hlen1 : l1.length ≤ maxLen) :
    Calls Try.prog 3 #[v0, v1, .bool a2, .bool a3] w fun e w' => e = .returned (.bool true) ∧ Below w.heap.size w w' := by
  rcases Int.lt_or_le (sz l0 1048576) 0 with hz0 | hz0
  ·
    go_enter Try.func3, Try.ntmps3
    go_wp2_with (first | (go_at_call_of 6 v0; refine (sz_any v0 l0 _ _ hr0 (by omega) (by omega) hs0 hlen0).mono ?_; rintro e w' ⟨rfl, rfl⟩))
    go_ret
    exact ⟨rfl, Below.refl _ _⟩
  ·
    have hq0 := sz_len hz0
    have hl0 : l0.length ≤ 1048576 := by have := hq0.1; omega
    have hp0 := hq0.2.1
    rcases Int.lt_or_le (sz l1 (sz l0 1048576)) 0 with hz1 | hz1
    ·
      go_enter Try.func3, Try.ntmps3
      go_wp2_with (first | (go_at_call_of 6 v0; refine (sz_any v0 l0 _ _ hr0 (by omega) (by omega) hs0 hlen0).mono ?_; rintro e w' ⟨rfl, rfl⟩) | (go_at_call_of 6 v1; refine (sz_any v1 l1 _ _ hr1 (by omega) (by omega) hs1 hlen1).mono ?_; rintro e w' ⟨rfl, rfl⟩))
      go_ret
      exact ⟨rfl, Below.refl _ _⟩
    ·
      have hq1 := sz_len hz1
      have hl1 : l1.length ≤ 1048576 := by have := hq1.1; omega
      have hp1 := hq1.2.1
      have HB0 := Below.refl w.heap.size w
      have hW0 : w.heap.size ≤ w.heap.size := Nat.le_refl _
      have hR0 : (movA l0 l1 a2).length ≤ 1048576 := res_len0 l0 l1 a2 a3 hl0 hl1
      have hR1 : (movR l0 l1 a2 a3).length ≤ 1048576 := res_len1 l0 l1 a2 a3 hl0 hl1
      go_enter Try.func3, Try.ntmps3
      go_wp2_with (first | (go_at_call_of 6 v0; refine (sz_any v0 l0 _ _ hr0 (by omega) (by omega) hs0 hlen0).mono ?_; rintro e w' ⟨rfl, rfl⟩) | (go_at_call_of 6 v1; refine (sz_any v1 l1 _ _ hr1 (by omega) (by omega) hs1 hlen1).mono ?_; rintro e w' ⟨rfl, rfl⟩))
      refine (to_own v0 l0 _ (reads_kept hr0 HB0) hl0).mono ?_
      rintro e w1 ⟨p0, rfl, op0_1, hb1⟩
      have HB1 := below_step HB0 hW0 hb1
      have hW1 := HB1.size
      have hM1 := hb1.size
      clear hb1 HB0
      go_wp2_with fail
      refine (to_own v1 l1 _ (reads_kept hr1 HB1) hl1).mono ?_
      rintro e w2 ⟨p1, rfl, op1_2, hb2⟩
      have HB2 := below_step HB1 hW1 hb2
      have hW2 := HB2.size
      have hM2 := hb2.size
      have op0_2 := own_kept op0_1 hb2
      clear hb2 HB1 op0_1
      go_wp2_with fail
      refine (spec_any p0 l0 p1 l1 a2 a3 _ (own_reads op0_2) hl0 (own_reads op1_2) hl1 ).mono ?_
      rintro e w3 ⟨s0, s1, rfl, ⟨md3, mlo3, mhi3, os0_3, os1_3⟩, hb3⟩
      have HB3 := below_step HB2 hW2 hb3
      have hW3 := HB3.size
      have hM3 := hb3.size
      have op0_3 := own_kept op0_2 hb3
      have op1_3 := own_kept op1_2 hb3
      clear hb3 HB2 op0_2 op1_2
      go_wp2_with fail
      clear op0_3 op1_3
      refine (to_own v0 l0 _ (reads_kept hr0 HB3) hl0).mono ?_
      rintro e w4 ⟨x0, rfl, ox0_4, hb4⟩
      have HB4 := below_step HB3 hW3 hb4
      have hW4 := HB4.size
      have hM4 := hb4.size
      have os0_4 := own_kept os0_3 hb4
      have os1_4 := own_kept os1_3 hb4
      clear hb4 HB3 os0_3 os1_3
      go_wp2_with fail
      refine (to_own v1 l1 _ (reads_kept hr1 HB4) hl1).mono ?_
      rintro e w5 ⟨x1, rfl, ox1_5, hb5⟩
      have HB5 := below_step HB4 hW4 hb5
      have hW5 := HB5.size
      have hM5 := hb5.size
      have os0_5 := own_kept os0_4 hb5
      have os1_5 := own_kept os1_4 hb5
      have ox0_5 := own_kept ox0_4 hb5
      clear hb5 HB4 os0_4 os1_4 ox0_4
      go_wp2_with fail
      refine (impl_any x0 l0 x1 l1 a2 a3 _ (own_reads ox0_5) hl0 (own_reads ox1_5) hl1 ).mono ?_
      rintro e w6 ⟨g0, g1, rfl, ⟨md6, mlo6, mhi6, og0_6, og1_6⟩, hb6⟩
      have HB6 := below_step HB5 hW5 hb6
      have hW6 := HB6.size
      have hM6 := hb6.size
      have os0_6 := own_kept os0_5 hb6
      have os1_6 := own_kept os1_5 hb6
      have ox0_6 := own_kept ox0_5 hb6
      have ox1_6 := own_kept ox1_5 hb6
      clear hb6 HB5 os0_5 os1_5 ox0_5 ox1_5
      go_wp2_with fail
      refine (eq_true g0 s0 (movA l0 l1 a2) _ (own_reads og0_6) (own_reads os0_6) hR0).mono ?_
      rintro e w7 ⟨rfl, hb7⟩
      have HB7 := below_step HB6 hW6 hb7
      have hW7 := HB7.size
      have hM7 := hb7.size
      have os0_7 := own_kept os0_6 hb7
      have os1_7 := own_kept os1_6 hb7
      have ox0_7 := own_kept ox0_6 hb7
      have ox1_7 := own_kept ox1_6 hb7
      have og0_7 := own_kept og0_6 hb7
      have og1_7 := own_kept og1_6 hb7
      clear hb7 HB6 os0_6 os1_6 ox0_6 ox1_6 og0_6 og1_6
      go_wp2_with fail
      refine (eq_true g1 s1 (movR l0 l1 a2 a3) _ (own_reads og1_7) (own_reads os1_7) hR1).mono ?_
      rintro e w8 ⟨rfl, hb8⟩
      have HB8 := below_step HB7 hW7 hb8
      have hW8 := HB8.size
      have hM8 := hb8.size
      have os0_8 := own_kept os0_7 hb8
      have os1_8 := own_kept os1_7 hb8
      have ox0_8 := own_kept ox0_7 hb8
      have ox1_8 := own_kept ox1_7 hb8
      have og0_8 := own_kept og0_7 hb8
      have og1_8 := own_kept og1_7 hb8
      clear hb8 HB7 os0_7 os1_7 ox0_7 ox1_7 og0_7 og1_7
      go_wp2_with fail
      refine (to_own v0 l0 _ (reads_kept hr0 HB8) hl0).mono ?_
      rintro e w9 ⟨y0, rfl, oy0_9, hb9⟩
      have HB9 := below_step HB8 hW8 hb9
      have hW9 := HB9.size
      have hM9 := hb9.size
      have os0_9 := own_kept os0_8 hb9
      have os1_9 := own_kept os1_8 hb9
      have ox0_9 := own_kept ox0_8 hb9
      have ox1_9 := own_kept ox1_8 hb9
      have og0_9 := own_kept og0_8 hb9
      have og1_9 := own_kept og1_8 hb9
      clear hb9 HB8 os0_8 os1_8 ox0_8 ox1_8 og0_8 og1_8
      go_wp2_with fail
      refine (eq_true x0 y0 (l0) _ (own_reads ox0_9) (own_reads oy0_9) hl0).mono ?_
      rintro e w10 ⟨rfl, hb10⟩
      have HB10 := below_step HB9 hW9 hb10
      have hW10 := HB10.size
      have hM10 := hb10.size
      have os0_10 := own_kept os0_9 hb10
      have os1_10 := own_kept os1_9 hb10
      have ox0_10 := own_kept ox0_9 hb10
      have ox1_10 := own_kept ox1_9 hb10
      have og0_10 := own_kept og0_9 hb10
      have og1_10 := own_kept og1_9 hb10
      have oy0_10 := own_kept oy0_9 hb10
      clear hb10 HB9 os0_9 os1_9 ox0_9 ox1_9 og0_9 og1_9 oy0_9
      go_wp2_with fail
      clear oy0_10
      refine (to_own v1 l1 _ (reads_kept hr1 HB10) hl1).mono ?_
      rintro e w11 ⟨y1, rfl, oy1_11, hb11⟩
      have HB11 := below_step HB10 hW10 hb11
      have hW11 := HB11.size
      have hM11 := hb11.size
      have os0_11 := own_kept os0_10 hb11
      have os1_11 := own_kept os1_10 hb11
      have ox0_11 := own_kept ox0_10 hb11
      have ox1_11 := own_kept ox1_10 hb11
      have og0_11 := own_kept og0_10 hb11
      have og1_11 := own_kept og1_10 hb11
      clear hb11 HB10 os0_10 os1_10 ox0_10 ox1_10 og0_10 og1_10
      go_wp2_with fail
      refine (eq_true x1 y1 (l1) _ (own_reads ox1_11) (own_reads oy1_11) hl1).mono ?_
      rintro e w12 ⟨rfl, hb12⟩
      have HB12 := below_step HB11 hW11 hb12
      have hW12 := HB12.size
      have hM12 := hb12.size
      have os0_12 := own_kept os0_11 hb12
      have os1_12 := own_kept os1_11 hb12
      have ox0_12 := own_kept ox0_11 hb12
      have ox1_12 := own_kept ox1_11 hb12
      have og0_12 := own_kept og0_11 hb12
      have og1_12 := own_kept og1_11 hb12
      have oy1_12 := own_kept oy1_11 hb12
      clear hb12 HB11 os0_11 os1_11 ox0_11 ox1_11 og0_11 og1_11 oy1_11
      go_wp2_with fail
      clear oy1_12
      refine (mark_own x0 (l0) _ _ _ ox0_12 hl0).mono ?_
      rintro e w13 ⟨rfl, ox0_13, hb13⟩
      have HB13 := below_own HB12 hW12 ox0_12 (by omega) hb13
      have hW13 := HB13.size
      have hM13 := hb13.size
      have os0_13 := own_apart os0_12 ox0_12 hb13 (by omega)
      have os1_13 := own_apart os1_12 ox0_12 hb13 (by omega)
      have ox1_13 := own_apart ox1_12 ox0_12 hb13 (by omega)
      have og0_13 := own_apart og0_12 ox0_12 hb13 (by omega)
      have og1_13 := own_apart og1_12 ox0_12 hb13 (by omega)
      clear hb13 HB12 os0_12 os1_12 ox1_12 og0_12 og1_12 ox0_12
      go_wp2_with fail
      refine (mark_own_from x1 (l1) _ _ _ _ ox1_13 (by omega) (by omega) hl1).mono ?_
      rintro e w14 ⟨rfl, ox1_14, hb14⟩
      have HB14 := below_own HB13 hW13 ox1_13 (by omega) hb14
      have hW14 := HB14.size
      have hM14 := hb14.size
      have os0_14 := own_apart os0_13 ox1_13 hb14 (by omega)
      have os1_14 := own_apart os1_13 ox1_13 hb14 (by omega)
      have ox0_14 := own_apart ox0_13 ox1_13 hb14 (by omega)
      have og0_14 := own_apart og0_13 ox1_13 hb14 (by omega)
      have og1_14 := own_apart og1_13 ox1_13 hb14 (by omega)
      clear hb14 HB13 os0_13 os1_13 ox0_13 og0_13 og1_13 ox1_13
      go_wp2_with fail
      clear ox0_14 ox1_14
      refine (eq_true g0 s0 (movA l0 l1 a2) _ (own_reads og0_14) (own_reads os0_14) hR0).mono ?_
      rintro e w15 ⟨rfl, hb15⟩
      have HB15 := below_step HB14 hW14 hb15
      have hW15 := HB15.size
      have hM15 := hb15.size
      have os0_15 := own_kept os0_14 hb15
      have os1_15 := own_kept os1_14 hb15
      have og0_15 := own_kept og0_14 hb15
      have og1_15 := own_kept og1_14 hb15
      clear hb15 HB14 os0_14 os1_14 og0_14 og1_14
      go_wp2_with fail
      refine (eq_true g1 s1 (movR l0 l1 a2 a3) _ (own_reads og1_15) (own_reads os1_15) hR1).mono ?_
      rintro e w16 ⟨rfl, hb16⟩
      have HB16 := below_step HB15 hW15 hb16
      have hW16 := HB16.size
      have hM16 := hb16.size
      have os0_16 := own_kept os0_15 hb16
      have os1_16 := own_kept os1_15 hb16
      have og0_16 := own_kept og0_15 hb16
      have og1_16 := own_kept og1_15 hb16
      clear hb16 HB15 os0_15 os1_15 og0_15 og1_15
      go_wp2_with fail
      refine (mark_own g0 (movA l0 l1 a2) _ _ _ og0_16 hR0).mono ?_
      rintro e w17 ⟨rfl, og0_17, hb17⟩
      have HB17 := below_own HB16 hW16 og0_16 (by omega) hb17
      have hW17 := HB17.size
      have hM17 := hb17.size
      have os0_17 := own_apart os0_16 og0_16 hb17 (by omega)
      have os1_17 := own_apart os1_16 og0_16 hb17 (by omega)
      have og1_17 := own_apart og1_16 og0_16 hb17 (by omega)
      clear hb17 HB16 os0_16 os1_16 og1_16 og0_16
      go_wp2_with fail
      refine (mark_own_from g1 (movR l0 l1 a2 a3) _ _ _ _ og1_17 (by omega) (by omega) hR1).mono ?_
      rintro e w18 ⟨rfl, og1_18, hb18⟩
      have HB18 := below_own HB17 hW17 og1_17 (by omega) hb18
      have hW18 := HB18.size
      have hM18 := hb18.size
      have os0_18 := own_apart os0_17 og1_17 hb18 (by omega)
      have os1_18 := own_apart os1_17 og1_17 hb18 (by omega)
      have og0_18 := own_apart og0_17 og1_17 hb18 (by omega)
      clear hb18 HB17 os0_17 os1_17 og0_17 og1_17
      go_wp2_with fail
      refine (held_own g0 (movA l0 l1 a2).length _ _ _ og0_18 hR0).mono ?_
      rintro e w19 ⟨rfl, hb19⟩
      have HB19 := below_step HB18 hW18 hb19
      have hW19 := HB19.size
      have hM19 := hb19.size
      have os0_19 := own_kept os0_18 hb19
      have os1_19 := own_kept os1_18 hb19
      have og0_19 := own_kept og0_18 hb19
      have og1_19 := own_kept og1_18 hb19
      clear hb19 HB18 os0_18 os1_18 og0_18 og1_18
      go_wp2_with fail
      refine (held_own_from g1 (movR l0 l1 a2 a3).length _ _ _ _ og1_19 (by omega) (by omega) hR1).mono ?_
      rintro e w20 ⟨rfl, hb20⟩
      have HB20 := below_step HB19 hW19 hb20
      have hW20 := HB20.size
      have hM20 := hb20.size
      have os0_20 := own_kept os0_19 hb20
      have os1_20 := own_kept os1_19 hb20
      have og0_20 := own_kept og0_19 hb20
      have og1_20 := own_kept og1_19 hb20
      clear hb20 HB19 os0_19 os1_19 og0_19 og1_19
      go_wp2_with fail
      refine (to_own v0 l0 _ (reads_kept hr0 HB20) hl0).mono ?_
      rintro e w21 ⟨z0, rfl, oz0_21, hb21⟩
      have HB21 := below_step HB20 hW20 hb21
      have hW21 := HB21.size
      have hM21 := hb21.size
      have os0_21 := own_kept os0_20 hb21
      have os1_21 := own_kept os1_20 hb21
      have og0_21 := own_kept og0_20 hb21
      have og1_21 := own_kept og1_20 hb21
      clear hb21 HB20 os0_20 os1_20 og0_20 og1_20
      go_wp2_with fail
      refine (to_own v1 l1 _ (reads_kept hr1 HB21) hl1).mono ?_
      rintro e w22 ⟨z1, rfl, oz1_22, hb22⟩
      have HB22 := below_step HB21 hW21 hb22
      have hW22 := HB22.size
      have hM22 := hb22.size
      have os0_22 := own_kept os0_21 hb22
      have os1_22 := own_kept os1_21 hb22
      have og0_22 := own_kept og0_21 hb22
      have og1_22 := own_kept og1_21 hb22
      have oz0_22 := own_kept oz0_21 hb22
      clear hb22 HB21 os0_21 os1_21 og0_21 og1_21 oz0_21
      go_wp2_with fail
      refine (impl_any z0 l0 z1 l1 a2 a3 _ (own_reads oz0_22) hl0 (own_reads oz1_22) hl1 ).mono ?_
      rintro e w23 ⟨h0, h1, rfl, ⟨md23, mlo23, mhi23, oh0_23, oh1_23⟩, hb23⟩
      have HB23 := below_step HB22 hW22 hb23
      have hW23 := HB23.size
      have hM23 := hb23.size
      have os0_23 := own_kept os0_22 hb23
      have os1_23 := own_kept os1_22 hb23
      have og0_23 := own_kept og0_22 hb23
      have og1_23 := own_kept og1_22 hb23
      have oz0_23 := own_kept oz0_22 hb23
      have oz1_23 := own_kept oz1_22 hb23
      clear hb23 HB22 os0_22 os1_22 og0_22 og1_22 oz0_22 oz1_22
      go_wp2_with fail
      clear oz0_23 oz1_23
      refine (eq_true h0 s0 (movA l0 l1 a2) _ (own_reads oh0_23) (own_reads os0_23) hR0).mono ?_
      rintro e w24 ⟨rfl, hb24⟩
      have HB24 := below_step HB23 hW23 hb24
      have hW24 := HB24.size
      have hM24 := hb24.size
      have os0_24 := own_kept os0_23 hb24
      have os1_24 := own_kept os1_23 hb24
      have og0_24 := own_kept og0_23 hb24
      have og1_24 := own_kept og1_23 hb24
      have oh0_24 := own_kept oh0_23 hb24
      have oh1_24 := own_kept oh1_23 hb24
      clear hb24 HB23 os0_23 os1_23 og0_23 og1_23 oh0_23 oh1_23
      go_wp2_with fail
      refine (eq_true h1 s1 (movR l0 l1 a2 a3) _ (own_reads oh1_24) (own_reads os1_24) hR1).mono ?_
      rintro e w25 ⟨rfl, hb25⟩
      have HB25 := below_step HB24 hW24 hb25
      have hW25 := HB25.size
      have hM25 := hb25.size
      have os0_25 := own_kept os0_24 hb25
      have os1_25 := own_kept os1_24 hb25
      have og0_25 := own_kept og0_24 hb25
      have og1_25 := own_kept og1_24 hb25
      have oh0_25 := own_kept oh0_24 hb25
      have oh1_25 := own_kept oh1_24 hb25
      clear hb25 HB24 os0_24 os1_24 og0_24 og1_24 oh0_24 oh1_24
      go_wp2_with fail
      refine (held_own g0 (movA l0 l1 a2).length _ _ _ og0_25 hR0).mono ?_
      rintro e w26 ⟨rfl, hb26⟩
      have HB26 := below_step HB25 hW25 hb26
      have hW26 := HB26.size
      have hM26 := hb26.size
      have os0_26 := own_kept os0_25 hb26
      have os1_26 := own_kept os1_25 hb26
      have og0_26 := own_kept og0_25 hb26
      have og1_26 := own_kept og1_25 hb26
      have oh0_26 := own_kept oh0_25 hb26
      have oh1_26 := own_kept oh1_25 hb26
      clear hb26 HB25 os0_25 os1_25 og0_25 og1_25 oh0_25 oh1_25
      go_wp2_with fail
      refine (held_own_from g1 (movR l0 l1 a2 a3).length _ _ _ _ og1_26 (by omega) (by omega) hR1).mono ?_
      rintro e w27 ⟨rfl, hb27⟩
      have HB27 := below_step HB26 hW26 hb27
      have hW27 := HB27.size
      have hM27 := hb27.size
      have os0_27 := own_kept os0_26 hb27
      have os1_27 := own_kept os1_26 hb27
      have og0_27 := own_kept og0_26 hb27
      have og1_27 := own_kept og1_26 hb27
      have oh0_27 := own_kept oh0_26 hb27
      have oh1_27 := own_kept oh1_26 hb27
      clear hb27 HB26 os0_26 os1_26 og0_26 og1_26 oh0_26 oh1_26
      go_wp2_with fail
      go_ret
      exact ⟨rfl, HB27⟩

set_option maxRecDepth 100000 in
theorem lifted (os : Os) (started : os.Started) (H : Type) (enc : TypeId × Value → H) :
    ReturnsInHanded {} Try.checked os 3 .any (Rows.fnExactListMoveSpec.pre6 enc Try.prog Try.f3 Rows.fnExactListMoveRow.domain false) (Rows.fnExactListMoveSpec.post enc Try.prog Try.f3 false true false false) := by
  refine returnsInHanded_of_change (C := Try.checked) own started (by kernel_rfl) Try.func3
    (ChangeSpec.witness6 (enc := enc) (C := Try.checked) false ⟨#[], #[.slice none 0 0, .slice none 0 0, .bool false, .bool false], []⟩ 8 (by kernel_rfl) (by kernel_rfl) (by kernel_rfl) (by kernel_rfl)) ?_
  intro W base args ds gs before hval0 hW hcnd _
  have hval : ∀ (j : Nat) t v, Try.f3.params[j]? = some t → args[j]? = some v → Value.okWide Try.prog W .any base t v := hval0
  have hW' := hW
  obtain ⟨p, q, hA0, hV, rfl, hfz, hnd⟩ := hW
  have hA : DataW.TrodAll enc Try.prog W 0 (fun _ => true) true Try.f3.params.toList args.toList ds p := hA0
  rw [Try.params3] at hA hval
  obtain ⟨v0, vs0, d0, ds0, p0, q0, hargs, rfl, rfl, h0, r0⟩ := trodAll_cons hA
  obtain ⟨v1, vs1, d1, ds1, p1, q1, rfl, rfl, rfl, h1, r1⟩ := trodAll_cons r0
  obtain ⟨v2, vs2, d2, ds2, p2, q2, rfl, rfl, rfl, h2, r2⟩ := trodAll_cons r1
  obtain ⟨v3, vs3, d3, ds3, p3, q3, rfl, rfl, rfl, h3, r3⟩ := trodAll_cons r2
  obtain ⟨rfl, rfl, rfl⟩ := trodAll_nil r3
  obtain rfl : args = #[v0, v1, v2, v3] := by cases args; simp_all
  obtain ⟨rfl, rfl⟩ := trodVars_none hV
  obtain ⟨a0, len0, cap0, rfl⟩ := okWide_slice Try.underlying22 (hval 0 22 v0 rfl rfl)
  have k0 := h0
  have lt0 : ∀ x ∈ p0, x.block < W.heap.size := by obtain ⟨m, hm⟩ := k0; exact DataW.trod_lt m _ _ _ hm
  obtain ⟨l0, w0⟩ : ∃ l, Reads W (.slice a0 len0 cap0) l ∧ (∀ s ∈ l, s.size ≤ maxLen) ∧ l.length ≤ maxLen := by
    obtain ⟨fuel, hf⟩ := h0
    rcases open_strings Try.underlying22 Try.underlying9 (by kernel_rfl) hf with ⟨hcs, _⟩ | ⟨x, ln, cp, ss, hcs, _, hl, hm, hz, _, hcell, hws⟩
    · exact reads_of_none (by simpa [Value.cells] using hcs)
    · exact reads_of_some (by simpa [Value.cells] using hcs) hl hm (by simpa using hz) hcell hws
  obtain ⟨a1, len1, cap1, rfl⟩ := okWide_slice Try.underlying22 (hval 1 22 v1 rfl rfl)
  have k1 := h1
  have lt1 : ∀ x ∈ p1, x.block < W.heap.size := by obtain ⟨m, hm⟩ := k1; exact DataW.trod_lt m _ _ _ hm
  obtain ⟨l1, w1⟩ : ∃ l, Reads W (.slice a1 len1 cap1) l ∧ (∀ s ∈ l, s.size ≤ maxLen) ∧ l.length ≤ maxLen := by
    obtain ⟨fuel, hf⟩ := h1
    rcases open_strings Try.underlying22 Try.underlying9 (by kernel_rfl) hf with ⟨hcs, _⟩ | ⟨x, ln, cp, ss, hcs, _, hl, hm, hz, _, hcell, hws⟩
    · exact reads_of_none (by simpa [Value.cells] using hcs)
    · exact reads_of_some (by simpa [Value.cells] using hcs) hl hm (by simpa using hz) hcell hws
  obtain ⟨a2, rfl, rfl, rfl⟩ := open_bool Try.underlying4 (hval 2 4 v2 rfl rfl) h2
  obtain ⟨a3, rfl, rfl, rfl⟩ := open_bool Try.underlying4 (hval 3 4 v3 rfl rfl) h3
  clear hA0 hval0
  refine (walk (.slice a0 len0 cap0) l0 (.slice a1 len1 cap1) l1 a2 a3 W w0.1 w0.2.1 w0.2.2 w1.1 w1.2.1 w1.2.2).mono fun e W' ⟨he, bel⟩ => ?_
  subst he
  exact ⟨_, rfl, _, _, _, [], _, [], hW', trodAll_mk1 (shut_bool Try.underlying4 _), (trodAll_cons_mk (Below.trod laidOut (by kernel_rfl) (of_decide_eq_true (by kernel_rfl)) k0 bel lt0) (trodAll_cons_mk (Below.trod laidOut (by kernel_rfl) (of_decide_eq_true (by kernel_rfl)) k1 bel lt1) (trodAll_cons_mk (shut_bool Try.underlying4 a2) (trodAll_cons_mk (shut_bool Try.underlying4 a3) trodAll_mk0)))), rfl, bel.frame _, fun h => by cases h⟩

theorem over : Rows.fnExactListMoveRow.holds Try.pinned (OpenSpec.ofChange Rows.fnExactListMoveSpec) :=
  OpenClaim.holds_of_wide 3 Try.f3 rfl rfl rfl rfl rfl rfl rfl ⟨rfl, rfl, rfl, rfl, rfl⟩ rfl rfl rfl rfl rfl (by kernel_rfl) Try.func3 (by kernel_rfl)
    (of_decide_eq_true (by kernel_rfl)) (by unfold Func.isWrapper; first | (rw [if_pos (by decide +kernel)]; kernel_rfl) | (rw [if_neg (by decide +kernel)]; exact ⟨rfl, rfl⟩))
    (fun os started H enc _ => lifted os started H enc)

theorem proved : Rows.FnExactListMoveSaid := over
end Go.Proofs.Ytfimhdbgikpcpaa.fnExactListMove
