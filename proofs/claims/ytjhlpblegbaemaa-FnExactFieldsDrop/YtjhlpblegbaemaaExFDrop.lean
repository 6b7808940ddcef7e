/- Proved: at every list of fields, and any name, FieldsDrop answers as its model, field by field; it writes into no argument; its answer owns its memory, behind another call too. No condition. -/
import Derived.Test.YtjhlpblegbaemaaPrP
import Derived.Test.YtjhlpblegbaemaaPrM
import Derived.OpenShut
import Derived.ShutString
import Derived.ChangeOld
import Derived.Below
import Derived.Deep.RegionWith
namespace Go.Proofs.Ytjhlpblegbaemaa.fnExactFieldsDrop
open Go.ChangeShapes Go.WideShapes Go.ChangeAt Go.RowKit
open Go.ChangeMaps (open_string shut_string)
set_option linter.unusedVariables false

theorem own : ownKnob Try.prog.godebug = none := by kernel_rfl
theorem laidOut : laidOutB Try.prog = true := by kernel_rfl
theorem res_len0 (l : List (ByteArray × ByteArray)) (s : ByteArray) (h : l.length ≤ 1048576) : (prDropR l s).length ≤ 1048576 := by
  unfold prDropR; split
  · have := prWo_len l s; omega
  · simp
theorem spec_any (v : Value) (l : List (ByteArray × ByteArray)) (s : ByteArray) (w : World) (hr : PrReads w v l) (hlen : l.length ≤ 1048576) :
    Calls Try.prog 43 #[v, .string s] w fun e w' => ∃ x, e = .returned (.tuple #[x, .bool (prDropB l s)]) ∧ PrOwn w' w.heap.size w'.heap.size x (prDropR l s) ∧ Below w.heap.size w w' :=
  (specFieldsDrop_any v l s w hr hlen).mono fun _ _ ⟨x, h, ho, hb⟩ => ⟨x, h, ownR_of ho, hb⟩
theorem impl_any (v : Value) (l : List (ByteArray × ByteArray)) (s : ByteArray) (w : World) (hr : PrReads w v l) (hlen : l.length ≤ 1048576) :
    Calls Try.prog 44 #[v, .string s] w fun e w' => ∃ x, e = .returned (.tuple #[x, .bool (prDropB l s)]) ∧ PrOwn w' w.heap.size w'.heap.size x (prDropR l s) ∧ Below w.heap.size w w' :=
  (implFieldsDrop_any v l s w hr hlen).mono fun _ _ ⟨x, h, ho, hb⟩ => ⟨x, h, ownR_of ho, hb⟩

set_option maxHeartbeats 8000000 in
theorem walk (v0 : Value) (l0 : List (ByteArray × ByteArray)) (a1 : ByteArray) (w : World) (hr0 : PrReads w v0 l0) (hs0 : prFit l0) (hlen0 : l0.length ≤ maxLen) (wf1 : a1.size ≤ maxLen) :
    Calls Try.prog 11 #[v0, .string a1] w fun e w' => e = .returned (.bool true) ∧ Below w.heap.size w w' := by
  have wg1 := wf1
  unfold maxLen at wg1
  rcases Int.lt_or_le (1048576 : Int) (a1.size : Int) with hx1 | hx1
  · go_enter Try.func11, Try.ntmps11
    go_wp2_with fail
    go_ret
    exact ⟨rfl, Below.refl _ _⟩
  ·
    go_enter Try.func11, Try.ntmps11
    have HB0 := Below.refl w.heap.size w
    have hW0 : w.heap.size ≤ w.heap.size := Nat.le_refl _
    go_wp2_with fail
    refine (szPairS_any v0 l0 _ _ (readsR_kept hr0 HB0) (by omega) (by omega) hs0 hlen0).mono ?_
    rintro e w1 ⟨rfl, hb1⟩
    have HB1 := HB0.trans (hb1.mono hW0)
    have hW1 := HB1.size
    have hM1 := hb1.size
    clear hb1 HB0
    rcases Int.lt_or_le (szW prW l0 1048576) 0 with hz0 | hz0
    ·
      go_wp2_with fail
      go_ret
      exact ⟨rfl, HB1⟩
    ·
      have hq0 := szW_len prW_pos hz0
      have hl0 : l0.length ≤ 1048576 := by have := hq0.1; omega
      have hp0 := hq0.2.1
      go_wp2_with fail
      have hR0 : (prDropR l0 a1).length ≤ 1048576 := res_len0 l0 a1 hl0
      refine (toPairS_own v0 l0 _ (readsR_kept hr0 HB1) hl0).mono ?_
      rintro e w2 ⟨p0, rfl, op0_2, hb2⟩
      have HB2 := HB1.trans (hb2.mono hW1)
      have hW2 := HB2.size
      have hM2 := hb2.size
      clear hb2 HB1
      go_wp2_with fail
      refine (spec_any p0 l0 a1 _ (ownR_reads prC_len op0_2) hl0 ).mono ?_
      rintro e w3 ⟨s0, rfl, os0_3, hb3⟩
      have HB3 := HB2.trans (hb3.mono hW2)
      have hW3 := HB3.size
      have hM3 := hb3.size
      have op0_3 := ownR_kept op0_2 hb3
      clear hb3 HB2 op0_2
      go_wp2_with fail
      clear op0_3
      refine (toPairS_own v0 l0 _ (readsR_kept hr0 HB3) hl0).mono ?_
      rintro e w4 ⟨x0, rfl, ox0_4, hb4⟩
      have HB4 := HB3.trans (hb4.mono hW3)
      have hW4 := HB4.size
      have hM4 := hb4.size
      have os0_4 := ownR_kept os0_3 hb4
      clear hb4 HB3 os0_3
      go_wp2_with fail
      refine (impl_any x0 l0 a1 _ (ownR_reads prC_len ox0_4) hl0 ).mono ?_
      rintro e w5 ⟨g0, rfl, og0_5, hb5⟩
      have HB5 := HB4.trans (hb5.mono hW4)
      have hW5 := HB5.size
      have hM5 := hb5.size
      have os0_5 := ownR_kept os0_4 hb5
      have ox0_5 := ownR_kept ox0_4 hb5
      clear hb5 HB4 os0_4 ox0_4
      go_wp2_with fail
      refine (eqPairS_true g0 s0 (prDropR l0 a1) _ (ownR_reads prC_len og0_5) (ownR_reads prC_len os0_5) hR0).mono ?_
      rintro e w6 ⟨rfl, hb6⟩
      have HB6 := HB5.trans (hb6.mono hW5)
      have hW6 := HB6.size
      have hM6 := hb6.size
      have os0_6 := ownR_kept os0_5 hb6
      have ox0_6 := ownR_kept ox0_5 hb6
      have og0_6 := ownR_kept og0_5 hb6
      clear hb6 HB5 os0_5 ox0_5 og0_5
      go_wp2_with fail
      refine (toPairS_own v0 l0 _ (readsR_kept hr0 HB6) hl0).mono ?_
      rintro e w7 ⟨y0, rfl, oy0_7, hb7⟩
      have HB7 := HB6.trans (hb7.mono hW6)
      have hW7 := HB7.size
      have hM7 := hb7.size
      have os0_7 := ownR_kept os0_6 hb7
      have ox0_7 := ownR_kept ox0_6 hb7
      have og0_7 := ownR_kept og0_6 hb7
      clear hb7 HB6 os0_6 ox0_6 og0_6
      go_wp2_with fail
      refine (eqPairS_true x0 y0 (l0) _ (ownR_reads prC_len ox0_7) (ownR_reads prC_len oy0_7) hl0).mono ?_
      rintro e w8 ⟨rfl, hb8⟩
      have HB8 := HB7.trans (hb8.mono hW7)
      have hW8 := HB8.size
      have hM8 := hb8.size
      have os0_8 := ownR_kept os0_7 hb8
      have ox0_8 := ownR_kept ox0_7 hb8
      have og0_8 := ownR_kept og0_7 hb8
      have oy0_8 := ownR_kept oy0_7 hb8
      clear hb8 HB7 os0_7 ox0_7 og0_7 oy0_7
      go_wp2_with fail
      clear oy0_8
      refine (markPair_own x0 (l0) _ _ 1 _ ox0_8 (by omega) (by omega) hl0).mono ?_
      rintro e w9 ⟨rfl, ox0_9, hb9⟩
      have HB9 := below_ownR HB8 hW8 ox0_8 (by omega) hb9
      have hW9 := HB9.size
      have hM9 := hb9.size
      have os0_9 := ownR_apart os0_8 ox0_8 hb9 (by omega)
      have og0_9 := ownR_apart og0_8 ox0_8 hb9 (by omega)
      clear hb9 HB8 os0_8 og0_8 ox0_8
      go_wp2_with fail
      clear ox0_9
      refine (eqPairS_true g0 s0 (prDropR l0 a1) _ (ownR_reads prC_len og0_9) (ownR_reads prC_len os0_9) hR0).mono ?_
      rintro e w10 ⟨rfl, hb10⟩
      have HB10 := HB9.trans (hb10.mono hW9)
      have hW10 := HB10.size
      have hM10 := hb10.size
      have os0_10 := ownR_kept os0_9 hb10
      have og0_10 := ownR_kept og0_9 hb10
      clear hb10 HB9 os0_9 og0_9
      go_wp2_with fail
      refine (markPair_own g0 (prDropR l0 a1) _ _ 1 _ og0_10 (by omega) (by omega) hR0).mono ?_
      rintro e w11 ⟨rfl, og0_11, hb11⟩
      have HB11 := below_ownR HB10 hW10 og0_10 (by omega) hb11
      have hW11 := HB11.size
      have hM11 := hb11.size
      have os0_11 := ownR_apart os0_10 og0_10 hb11 (by omega)
      clear hb11 HB10 os0_10 og0_10
      go_wp2_with fail
      refine (heldPair_own g0 (prDropR l0 a1).length _ _ _ og0_11 hR0).mono ?_
      rintro e w12 ⟨rfl, hb12⟩
      have HB12 := HB11.trans (hb12.mono hW11)
      have hW12 := HB12.size
      have hM12 := hb12.size
      have os0_12 := ownR_kept os0_11 hb12
      have og0_12 := ownR_kept og0_11 hb12
      clear hb12 HB11 os0_11 og0_11
      go_wp2_with fail
      refine (toPairS_own v0 l0 _ (readsR_kept hr0 HB12) hl0).mono ?_
      rintro e w13 ⟨z0, rfl, oz0_13, hb13⟩
      have HB13 := HB12.trans (hb13.mono hW12)
      have hW13 := HB13.size
      have hM13 := hb13.size
      have os0_13 := ownR_kept os0_12 hb13
      have og0_13 := ownR_kept og0_12 hb13
      clear hb13 HB12 os0_12 og0_12
      go_wp2_with fail
      refine (impl_any z0 l0 a1 _ (ownR_reads prC_len oz0_13) hl0 ).mono ?_
      rintro e w14 ⟨h0, rfl, oh0_14, hb14⟩
      have HB14 := HB13.trans (hb14.mono hW13)
      have hW14 := HB14.size
      have hM14 := hb14.size
      have os0_14 := ownR_kept os0_13 hb14
      have og0_14 := ownR_kept og0_13 hb14
      have oz0_14 := ownR_kept oz0_13 hb14
      clear hb14 HB13 os0_13 og0_13 oz0_13
      go_wp2_with fail
      clear oz0_14
      refine (eqPairS_true h0 s0 (prDropR l0 a1) _ (ownR_reads prC_len oh0_14) (ownR_reads prC_len os0_14) hR0).mono ?_
      rintro e w15 ⟨rfl, hb15⟩
      have HB15 := HB14.trans (hb15.mono hW14)
      have hW15 := HB15.size
      have hM15 := hb15.size
      have os0_15 := ownR_kept os0_14 hb15
      have og0_15 := ownR_kept og0_14 hb15
      have oh0_15 := ownR_kept oh0_14 hb15
      clear hb15 HB14 os0_14 og0_14 oh0_14
      go_wp2_with fail
      refine (heldPair_own g0 (prDropR l0 a1).length _ _ _ og0_15 hR0).mono ?_
      rintro e w16 ⟨rfl, hb16⟩
      have HB16 := HB15.trans (hb16.mono hW15)
      have hW16 := HB16.size
      have hM16 := hb16.size
      have os0_16 := ownR_kept os0_15 hb16
      have og0_16 := ownR_kept og0_15 hb16
      have oh0_16 := ownR_kept oh0_15 hb16
      clear hb16 HB15 os0_15 og0_15 oh0_15
      go_wp2_with fail
      go_ret
      exact ⟨rfl, HB16⟩

set_option maxRecDepth 100000 in
theorem lifted (os : Os) (started : os.Started) (H : Type) (enc : TypeId × Value → H) :
    ReturnsInHanded {} Try.checked os 11 .any (Rows.fnExactFieldsDropSpec.pre6 enc Try.prog Try.f11 Rows.fnExactFieldsDropRow.domain false) (Rows.fnExactFieldsDropSpec.post enc Try.prog Try.f11 false true false false) := by
  refine returnsInHanded_of_change (C := Try.checked) own started (by kernel_rfl) Try.func11
    (ChangeSpec.witness6 (enc := enc) (C := Try.checked) false ⟨#[], #[.slice none 0 0, .string ByteArray.empty], []⟩ 8 (by kernel_rfl) (by kernel_rfl) (by kernel_rfl) (by kernel_rfl)) ?_
  intro W base args ds gs before hval0 hW hcnd _
  have hval : ∀ (j : Nat) t v, Try.f11.params[j]? = some t → args[j]? = some v → Value.okWide Try.prog W .any base t v := hval0
  have hW' := hW
  obtain ⟨p, q, hA0, hV, rfl, hfz, hnd⟩ := hW
  have hA : DataW.TrodAll enc Try.prog W 0 (fun _ => true) true Try.f11.params.toList args.toList ds p := hA0
  rw [Try.params11] at hA hval
  obtain ⟨v0, vs0, d0, ds0, p0, q0, hargs, rfl, rfl, h0, r0⟩ := trodAll_cons hA
  obtain ⟨v1, vs1, d1, ds1, p1, q1, rfl, rfl, rfl, h1, r1⟩ := trodAll_cons r0
  obtain ⟨rfl, rfl, rfl⟩ := trodAll_nil r1
  obtain rfl : args = #[v0, v1] := by cases args; simp_all
  obtain ⟨rfl, rfl⟩ := trodVars_none hV
  obtain ⟨a0, len0, cap0, rfl⟩ := okWide_slice Try.underlying44 (hval 0 44 v0 rfl rfl)
  have k0 := h0
  have lt0 : ∀ x ∈ p0, x.block < W.heap.size := by obtain ⟨m, hm⟩ := k0; exact DataW.trod_lt m _ _ _ hm
  obtain ⟨l0, w0⟩ : ∃ l, PrReads W (.slice a0 len0 cap0) l ∧ prFit l ∧ l.length ≤ maxLen := by
    obtain ⟨fuel, hf⟩ := h0
    exact pr_open (by simp [Value.cells]) hf
  obtain ⟨a1, rfl, rfl, rfl, w1⟩ := open_string Try.underlying9 (hval 1 9 v1 rfl rfl) h1
  clear hA0 hval0
  refine (walk (.slice a0 len0 cap0) l0 a1 W w0.1 w0.2.1 w0.2.2 w1).mono fun e W' ⟨he, bel⟩ => ?_
  subst he
  exact ⟨_, rfl, _, _, _, [], _, [], hW', trodAll_mk1 (shut_bool Try.underlying4 _), (trodAll_cons_mk (Below.trod laidOut (by kernel_rfl) (of_decide_eq_true (by kernel_rfl)) k0 bel lt0) (trodAll_cons_mk (shut_string Try.underlying9 w1) trodAll_mk0)), rfl, bel.frame _, fun h => by cases h⟩

theorem over : Rows.fnExactFieldsDropRow.holds Try.pinned (OpenSpec.ofChange Rows.fnExactFieldsDropSpec) :=
  OpenClaim.holds_of_wide 11 Try.f11 rfl rfl rfl rfl rfl rfl rfl ⟨rfl, rfl, rfl, rfl, rfl⟩ rfl rfl rfl rfl rfl (by kernel_rfl) Try.func11 (by kernel_rfl)
    (of_decide_eq_true (by kernel_rfl)) (by unfold Func.isWrapper; first | (rw [if_pos (by decide +kernel)]; kernel_rfl) | (rw [if_neg (by decide +kernel)]; exact ⟨rfl, rfl⟩))
    (fun os started H enc _ => lifted os started H enc)

theorem proved : Rows.FnExactFieldsDropSaid := over
end Go.Proofs.Ytjhlpblegbaemaa.fnExactFieldsDrop
