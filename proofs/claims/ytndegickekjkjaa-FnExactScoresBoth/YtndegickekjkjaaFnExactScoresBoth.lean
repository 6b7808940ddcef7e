/- Proved: at every two lists of scores ScoresBoth answers as its model, field by field; it writes into no argument; its answer owns its memory, behind another call too. No condition. -/
import Derived.Test.YtndegickekjkjaaSumD
import Derived.Test.YtndegickekjkjaaSumE
import Derived.Test.YtndegickekjkjaaScM
import Derived.OpenShut
import Derived.ShutString
import Derived.ChangeOld
import Derived.Below
import Derived.Deep.RegionWith
namespace Go.Proofs.Ytndegickekjkjaa.fnExactScoresBoth
open Go.ChangeShapes Go.WideShapes Go.ChangeAt Go.RowKit
open Go.ChangeMaps (open_string shut_string)
set_option linter.unusedVariables false

theorem own : ownKnob Try.prog.godebug = none := by kernel_rfl
theorem laidOut : laidOutB Try.prog = true := by kernel_rfl
theorem res_len0 (a b : List (ByteArray × Int)) (h : a.length ≤ 1048576) (h2 : b.length ≤ 1048576) : (sumBothR a b).length ≤ 1048576 := by
  by_cases hok : (scOkB a && scOkB b) = true
  · rw [Bool.and_eq_true] at hok
    have ha := scOk_len hok.1
    have hb := scOk_len hok.2
    rw [sumBothR_ok hok.1 hok.2]
    have := bothTo_len a b a.length; omega
  · rw [sumBothR_no (by simpa using hok)]; simp
theorem spec_any (v : Value) (a : List (ByteArray × Int)) (u : Value) (b : List (ByteArray × Int)) (w : World) (hr : ScReads w v a) (ha : a.length ≤ 1048576) (hq : ScReads w u b) (hb : b.length ≤ 1048576) :
    Calls Try.prog 12 #[v, u] w fun e w' => ∃ x, e = .returned x ∧ ScOwn w' w.heap.size w'.heap.size x (sumBothR a b) ∧ Below w.heap.size w w' :=
  (specSumBoth_any v u a b w hr hq ha hb).mono fun _ _ ⟨x, h, ho, hb⟩ => ⟨x, h, ownR_of ho, hb⟩
theorem impl_any (v : Value) (a : List (ByteArray × Int)) (u : Value) (b : List (ByteArray × Int)) (w : World) (hr : ScReads w v a) (ha : a.length ≤ 1048576) (hq : ScReads w u b) (hb : b.length ≤ 1048576) :
    Calls Try.prog 13 #[v, u] w fun e w' => ∃ x, e = .returned x ∧ ScOwn w' w.heap.size w'.heap.size x (sumBothR a b) ∧ Below w.heap.size w w' :=
  (implSumBoth_any v u a b w hr hq ha hb).mono fun _ _ ⟨x, h, ho, hb⟩ => ⟨x, h, ownR_of ho, hb⟩

set_option maxHeartbeats 8000000 in
theorem walk (v0 : Value) (l0 : List (ByteArray × Int)) (v1 : Value) (l1 : List (ByteArray × Int)) (w : World) (hr0 : ScReads w v0 l0) (hs0 : scFit l0) (hlen0 : l0.length ≤ maxLen) (hr1 : ScReads w v1 l1) (hs1 : scFit l1) (hlen1 : l1.length ≤ maxLen) :
    Calls Try.prog 4 #[v0, v1] w fun e w' => e = .returned (.bool true) ∧ Below w.heap.size w w' := by
  go_enter Try.func4, Try.ntmps4
  have HB0 := Below.refl w.heap.size w
  have hW0 : w.heap.size ≤ w.heap.size := Nat.le_refl _
  go_wp2_with fail
  refine (szScoreS_any v0 l0 _ _ (readsR_kept hr0 HB0) (by omega) (by omega) hs0 hlen0).mono ?_
  rintro e w1 ⟨rfl, hb1⟩
  have HB1 := HB0.trans (hb1.mono hW0)
  have hW1 := HB1.size
  have hM1 := hb1.size
  clear hb1 HB0
  rcases Int.lt_or_le (szW scW l0 1048576) 0 with hz0 | hz0
  ·
    go_wp2_with fail
    go_ret
    exact ⟨rfl, HB1⟩
  ·
    have hq0 := szW_len scW_pos hz0
    have hl0 : l0.length ≤ 1048576 := by have := hq0.1; omega
    have hp0 := hq0.2.1
    go_wp2_with fail
    refine (szScoreS_any v1 l1 _ _ (readsR_kept hr1 HB1) (by omega) (by omega) hs1 hlen1).mono ?_
    rintro e w2 ⟨rfl, hb2⟩
    have HB2 := HB1.trans (hb2.mono hW1)
    have hW2 := HB2.size
    have hM2 := hb2.size
    clear hb2 HB1
    rcases Int.lt_or_le (szW scW l1 (szW scW l0 1048576)) 0 with hz1 | hz1
    ·
      go_wp2_with fail
      go_ret
      exact ⟨rfl, HB2⟩
    ·
      have hq1 := szW_len scW_pos hz1
      have hl1 : l1.length ≤ 1048576 := by have := hq1.1; omega
      have hp1 := hq1.2.1
      go_wp2_with fail
      have hR0 : (sumBothR l0 l1).length ≤ 1048576 := res_len0 l0 l1 hl0 hl1
      refine (toScoreS_own v0 l0 _ (readsR_kept hr0 HB2) hl0).mono ?_
      rintro e w3 ⟨p0, rfl, op0_3, hb3⟩
      have HB3 := HB2.trans (hb3.mono hW2)
      have hW3 := HB3.size
      have hM3 := hb3.size
      clear hb3 HB2
      go_wp2_with fail
      refine (toScoreS_own v1 l1 _ (readsR_kept hr1 HB3) hl1).mono ?_
      rintro e w4 ⟨p1, rfl, op1_4, hb4⟩
      have HB4 := HB3.trans (hb4.mono hW3)
      have hW4 := HB4.size
      have hM4 := hb4.size
      have op0_4 := ownR_kept op0_3 hb4
      clear hb4 HB3 op0_3
      go_wp2_with fail
      refine (spec_any p0 l0 p1 l1 _ (ownR_reads scC_len op0_4) hl0 (ownR_reads scC_len op1_4) hl1 ).mono ?_
      rintro e w5 ⟨s0, rfl, os0_5, hb5⟩
      have HB5 := HB4.trans (hb5.mono hW4)
      have hW5 := HB5.size
      have hM5 := hb5.size
      have op0_5 := ownR_kept op0_4 hb5
      have op1_5 := ownR_kept op1_4 hb5
      clear hb5 HB4 op0_4 op1_4
      go_wp2_with fail
      clear op0_5 op1_5
      refine (toScoreS_own v0 l0 _ (readsR_kept hr0 HB5) hl0).mono ?_
      rintro e w6 ⟨x0, rfl, ox0_6, hb6⟩
      have HB6 := HB5.trans (hb6.mono hW5)
      have hW6 := HB6.size
      have hM6 := hb6.size
      have os0_6 := ownR_kept os0_5 hb6
      clear hb6 HB5 os0_5
      go_wp2_with fail
      refine (toScoreS_own v1 l1 _ (readsR_kept hr1 HB6) hl1).mono ?_
      rintro e w7 ⟨x1, rfl, ox1_7, hb7⟩
      have HB7 := HB6.trans (hb7.mono hW6)
      have hW7 := HB7.size
      have hM7 := hb7.size
      have os0_7 := ownR_kept os0_6 hb7
      have ox0_7 := ownR_kept ox0_6 hb7
      clear hb7 HB6 os0_6 ox0_6
      go_wp2_with fail
      refine (impl_any x0 l0 x1 l1 _ (ownR_reads scC_len ox0_7) hl0 (ownR_reads scC_len ox1_7) hl1 ).mono ?_
      rintro e w8 ⟨g0, rfl, og0_8, hb8⟩
      have HB8 := HB7.trans (hb8.mono hW7)
      have hW8 := HB8.size
      have hM8 := hb8.size
      have os0_8 := ownR_kept os0_7 hb8
      have ox0_8 := ownR_kept ox0_7 hb8
      have ox1_8 := ownR_kept ox1_7 hb8
      clear hb8 HB7 os0_7 ox0_7 ox1_7
      go_wp2_with fail
      refine (eqScoreS_true g0 s0 (sumBothR l0 l1) _ (ownR_reads scC_len og0_8) (ownR_reads scC_len os0_8) hR0).mono ?_
      rintro e w9 ⟨rfl, hb9⟩
      have HB9 := HB8.trans (hb9.mono hW8)
      have hW9 := HB9.size
      have hM9 := hb9.size
      have os0_9 := ownR_kept os0_8 hb9
      have ox0_9 := ownR_kept ox0_8 hb9
      have ox1_9 := ownR_kept ox1_8 hb9
      have og0_9 := ownR_kept og0_8 hb9
      clear hb9 HB8 os0_8 ox0_8 ox1_8 og0_8
      go_wp2_with fail
      refine (toScoreS_own v0 l0 _ (readsR_kept hr0 HB9) hl0).mono ?_
      rintro e w10 ⟨y0, rfl, oy0_10, hb10⟩
      have HB10 := HB9.trans (hb10.mono hW9)
      have hW10 := HB10.size
      have hM10 := hb10.size
      have os0_10 := ownR_kept os0_9 hb10
      have ox0_10 := ownR_kept ox0_9 hb10
      have ox1_10 := ownR_kept ox1_9 hb10
      have og0_10 := ownR_kept og0_9 hb10
      clear hb10 HB9 os0_9 ox0_9 ox1_9 og0_9
      go_wp2_with fail
      refine (eqScoreS_true x0 y0 (l0) _ (ownR_reads scC_len ox0_10) (ownR_reads scC_len oy0_10) hl0).mono ?_
      rintro e w11 ⟨rfl, hb11⟩
      have HB11 := HB10.trans (hb11.mono hW10)
      have hW11 := HB11.size
      have hM11 := hb11.size
      have os0_11 := ownR_kept os0_10 hb11
      have ox0_11 := ownR_kept ox0_10 hb11
      have ox1_11 := ownR_kept ox1_10 hb11
      have og0_11 := ownR_kept og0_10 hb11
      have oy0_11 := ownR_kept oy0_10 hb11
      clear hb11 HB10 os0_10 ox0_10 ox1_10 og0_10 oy0_10
      go_wp2_with fail
      clear oy0_11
      refine (toScoreS_own v1 l1 _ (readsR_kept hr1 HB11) hl1).mono ?_
      rintro e w12 ⟨y1, rfl, oy1_12, hb12⟩
      have HB12 := HB11.trans (hb12.mono hW11)
      have hW12 := HB12.size
      have hM12 := hb12.size
      have os0_12 := ownR_kept os0_11 hb12
      have ox0_12 := ownR_kept ox0_11 hb12
      have ox1_12 := ownR_kept ox1_11 hb12
      have og0_12 := ownR_kept og0_11 hb12
      clear hb12 HB11 os0_11 ox0_11 ox1_11 og0_11
      go_wp2_with fail
      refine (eqScoreS_true x1 y1 (l1) _ (ownR_reads scC_len ox1_12) (ownR_reads scC_len oy1_12) hl1).mono ?_
      rintro e w13 ⟨rfl, hb13⟩
      have HB13 := HB12.trans (hb13.mono hW12)
      have hW13 := HB13.size
      have hM13 := hb13.size
      have os0_13 := ownR_kept os0_12 hb13
      have ox0_13 := ownR_kept ox0_12 hb13
      have ox1_13 := ownR_kept ox1_12 hb13
      have og0_13 := ownR_kept og0_12 hb13
      have oy1_13 := ownR_kept oy1_12 hb13
      clear hb13 HB12 os0_12 ox0_12 ox1_12 og0_12 oy1_12
      go_wp2_with fail
      clear oy1_13
      refine (markScore_own x0 (l0) _ _ 1 _ ox0_13 (by omega) (by omega) hl0).mono ?_
      rintro e w14 ⟨rfl, ox0_14, hb14⟩
      have HB14 := below_ownR HB13 hW13 ox0_13 (by omega) hb14
      have hW14 := HB14.size
      have hM14 := hb14.size
      have os0_14 := ownR_apart os0_13 ox0_13 hb14 (by omega)
      have ox1_14 := ownR_apart ox1_13 ox0_13 hb14 (by omega)
      have og0_14 := ownR_apart og0_13 ox0_13 hb14 (by omega)
      clear hb14 HB13 os0_13 ox1_13 og0_13 ox0_13
      go_wp2_with fail
      refine (markScore_own x1 (l1) _ _ _ _ ox1_14 (by omega) (by omega) hl1).mono ?_
      rintro e w15 ⟨rfl, ox1_15, hb15⟩
      have HB15 := below_ownR HB14 hW14 ox1_14 (by omega) hb15
      have hW15 := HB15.size
      have hM15 := hb15.size
      have os0_15 := ownR_apart os0_14 ox1_14 hb15 (by omega)
      have ox0_15 := ownR_apart ox0_14 ox1_14 hb15 (by omega)
      have og0_15 := ownR_apart og0_14 ox1_14 hb15 (by omega)
      clear hb15 HB14 os0_14 ox0_14 og0_14 ox1_14
      go_wp2_with fail
      clear ox0_15 ox1_15
      refine (eqScoreS_true g0 s0 (sumBothR l0 l1) _ (ownR_reads scC_len og0_15) (ownR_reads scC_len os0_15) hR0).mono ?_
      rintro e w16 ⟨rfl, hb16⟩
      have HB16 := HB15.trans (hb16.mono hW15)
      have hW16 := HB16.size
      have hM16 := hb16.size
      have os0_16 := ownR_kept os0_15 hb16
      have og0_16 := ownR_kept og0_15 hb16
      clear hb16 HB15 os0_15 og0_15
      go_wp2_with fail
      refine (markScore_own g0 (sumBothR l0 l1) _ _ 1 _ og0_16 (by omega) (by omega) hR0).mono ?_
      rintro e w17 ⟨rfl, og0_17, hb17⟩
      have HB17 := below_ownR HB16 hW16 og0_16 (by omega) hb17
      have hW17 := HB17.size
      have hM17 := hb17.size
      have os0_17 := ownR_apart os0_16 og0_16 hb17 (by omega)
      clear hb17 HB16 os0_16 og0_16
      go_wp2_with fail
      refine (heldScore_own g0 (sumBothR l0 l1).length _ _ _ og0_17 hR0).mono ?_
      rintro e w18 ⟨rfl, hb18⟩
      have HB18 := HB17.trans (hb18.mono hW17)
      have hW18 := HB18.size
      have hM18 := hb18.size
      have os0_18 := ownR_kept os0_17 hb18
      have og0_18 := ownR_kept og0_17 hb18
      clear hb18 HB17 os0_17 og0_17
      go_wp2_with fail
      refine (toScoreS_own v0 l0 _ (readsR_kept hr0 HB18) hl0).mono ?_
      rintro e w19 ⟨z0, rfl, oz0_19, hb19⟩
      have HB19 := HB18.trans (hb19.mono hW18)
      have hW19 := HB19.size
      have hM19 := hb19.size
      have os0_19 := ownR_kept os0_18 hb19
      have og0_19 := ownR_kept og0_18 hb19
      clear hb19 HB18 os0_18 og0_18
      go_wp2_with fail
      refine (toScoreS_own v1 l1 _ (readsR_kept hr1 HB19) hl1).mono ?_
      rintro e w20 ⟨z1, rfl, oz1_20, hb20⟩
      have HB20 := HB19.trans (hb20.mono hW19)
      have hW20 := HB20.size
      have hM20 := hb20.size
      have os0_20 := ownR_kept os0_19 hb20
      have og0_20 := ownR_kept og0_19 hb20
      have oz0_20 := ownR_kept oz0_19 hb20
      clear hb20 HB19 os0_19 og0_19 oz0_19
      go_wp2_with fail
      refine (impl_any z0 l0 z1 l1 _ (ownR_reads scC_len oz0_20) hl0 (ownR_reads scC_len oz1_20) hl1 ).mono ?_
      rintro e w21 ⟨h0, rfl, oh0_21, hb21⟩
      have HB21 := HB20.trans (hb21.mono hW20)
      have hW21 := HB21.size
      have hM21 := hb21.size
      have os0_21 := ownR_kept os0_20 hb21
      have og0_21 := ownR_kept og0_20 hb21
      have oz0_21 := ownR_kept oz0_20 hb21
      have oz1_21 := ownR_kept oz1_20 hb21
      clear hb21 HB20 os0_20 og0_20 oz0_20 oz1_20
      go_wp2_with fail
      clear oz0_21 oz1_21
      refine (eqScoreS_true h0 s0 (sumBothR l0 l1) _ (ownR_reads scC_len oh0_21) (ownR_reads scC_len os0_21) hR0).mono ?_
      rintro e w22 ⟨rfl, hb22⟩
      have HB22 := HB21.trans (hb22.mono hW21)
      have hW22 := HB22.size
      have hM22 := hb22.size
      have os0_22 := ownR_kept os0_21 hb22
      have og0_22 := ownR_kept og0_21 hb22
      have oh0_22 := ownR_kept oh0_21 hb22
      clear hb22 HB21 os0_21 og0_21 oh0_21
      go_wp2_with fail
      refine (heldScore_own g0 (sumBothR l0 l1).length _ _ _ og0_22 hR0).mono ?_
      rintro e w23 ⟨rfl, hb23⟩
      have HB23 := HB22.trans (hb23.mono hW22)
      have hW23 := HB23.size
      have hM23 := hb23.size
      have os0_23 := ownR_kept os0_22 hb23
      have og0_23 := ownR_kept og0_22 hb23
      have oh0_23 := ownR_kept oh0_22 hb23
      clear hb23 HB22 os0_22 og0_22 oh0_22
      go_wp2_with fail
      go_ret
      exact ⟨rfl, HB23⟩

set_option maxRecDepth 100000 in
theorem lifted (os : Os) (started : os.Started) (H : Type) (enc : TypeId × Value → H) :
    ReturnsInHanded {} Try.checked os 4 .any (Rows.fnExactScoresBothSpec.pre6 enc Try.prog Try.f4 Rows.fnExactScoresBothRow.domain false) (Rows.fnExactScoresBothSpec.post enc Try.prog Try.f4 false true false false) := by
  refine returnsInHanded_of_change (C := Try.checked) own started (by kernel_rfl) Try.func4
    (ChangeSpec.witness6 (enc := enc) (C := Try.checked) false ⟨#[], #[.slice none 0 0, .slice none 0 0], []⟩ 8 (by kernel_rfl) (by kernel_rfl) (by kernel_rfl) (by kernel_rfl)) ?_
  intro W base args ds gs before hval0 hW hcnd _
  have hval : ∀ (j : Nat) t v, Try.f4.params[j]? = some t → args[j]? = some v → Value.okWide Try.prog W .any base t v := hval0
  have hW' := hW
  obtain ⟨p, q, hA0, hV, rfl, hfz, hnd⟩ := hW
  have hA : DataW.TrodAll enc Try.prog W 0 (fun _ => true) true Try.f4.params.toList args.toList ds p := hA0
  rw [Try.params4] at hA hval
  obtain ⟨v0, vs0, d0, ds0, p0, q0, hargs, rfl, rfl, h0, r0⟩ := trodAll_cons hA
  obtain ⟨v1, vs1, d1, ds1, p1, q1, rfl, rfl, rfl, h1, r1⟩ := trodAll_cons r0
  obtain ⟨rfl, rfl, rfl⟩ := trodAll_nil r1
  obtain rfl : args = #[v0, v1] := by cases args; simp_all
  obtain ⟨rfl, rfl⟩ := trodVars_none hV
  obtain ⟨a0, len0, cap0, rfl⟩ := okWide_slice Try.underlying22 (hval 0 22 v0 rfl rfl)
  have k0 := h0
  have lt0 : ∀ x ∈ p0, x.block < W.heap.size := by obtain ⟨m, hm⟩ := k0; exact DataW.trod_lt m _ _ _ hm
  obtain ⟨l0, w0⟩ : ∃ l, ScReads W (.slice a0 len0 cap0) l ∧ scFit l ∧ l.length ≤ maxLen := by
    obtain ⟨fuel, hf⟩ := h0
    exact sc_open (by simp [Value.cells]) hf
  obtain ⟨a1, len1, cap1, rfl⟩ := okWide_slice Try.underlying22 (hval 1 22 v1 rfl rfl)
  have k1 := h1
  have lt1 : ∀ x ∈ p1, x.block < W.heap.size := by obtain ⟨m, hm⟩ := k1; exact DataW.trod_lt m _ _ _ hm
  obtain ⟨l1, w1⟩ : ∃ l, ScReads W (.slice a1 len1 cap1) l ∧ scFit l ∧ l.length ≤ maxLen := by
    obtain ⟨fuel, hf⟩ := h1
    exact sc_open (by simp [Value.cells]) hf
  clear hA0 hval0
  refine (walk (.slice a0 len0 cap0) l0 (.slice a1 len1 cap1) l1 W w0.1 w0.2.1 w0.2.2 w1.1 w1.2.1 w1.2.2).mono fun e W' ⟨he, bel⟩ => ?_
  subst he
  exact ⟨_, rfl, _, _, _, [], _, [], hW', trodAll_mk1 (shut_bool Try.underlying4 _), (trodAll_cons_mk (Below.trod laidOut (by kernel_rfl) (of_decide_eq_true (by kernel_rfl)) k0 bel lt0) (trodAll_cons_mk (Below.trod laidOut (by kernel_rfl) (of_decide_eq_true (by kernel_rfl)) k1 bel lt1) trodAll_mk0)), rfl, bel.frame _, fun h => by cases h⟩

theorem over : Rows.fnExactScoresBothRow.holds Try.pinned (OpenSpec.ofChange Rows.fnExactScoresBothSpec) :=
  OpenClaim.holds_of_wide 4 Try.f4 rfl rfl rfl rfl rfl rfl rfl ⟨rfl, rfl, rfl, rfl, rfl⟩ rfl rfl rfl rfl rfl (by kernel_rfl) Try.func4 (by kernel_rfl)
    (of_decide_eq_true (by kernel_rfl)) (by unfold Func.isWrapper; first | (rw [if_pos (by decide +kernel)]; kernel_rfl) | (rw [if_neg (by decide +kernel)]; exact ⟨rfl, rfl⟩))
    (fun os started H enc _ => lifted os started H enc)

theorem proved : Rows.FnExactScoresBothSaid := over
end Go.Proofs.Ytndegickekjkjaa.fnExactScoresBoth
