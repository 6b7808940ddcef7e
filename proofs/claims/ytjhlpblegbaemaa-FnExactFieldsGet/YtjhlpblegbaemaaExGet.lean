/- Proved: at every list of fields, and every name, FieldsGet answers as its model, and writes into no argument. No condition. -/
import Derived.Test.YtjhlpblegbaemaaPrJ
import Derived.Test.YtjhlpblegbaemaaPrG
import Derived.OpenShut
import Derived.ShutString
import Derived.ChangeOld
import Derived.Below
import Derived.Deep.RegionWith
namespace Go.Proofs.Ytjhlpblegbaemaa.fnExactFieldsGet
open Go.ChangeShapes Go.WideShapes Go.ChangeAt Go.RowKit
open Go.ChangeMaps (open_string shut_string)
set_option linter.unusedVariables false

theorem own : ownKnob Try.prog.godebug = none := by kernel_rfl
theorem laidOut : laidOutB Try.prog = true := by kernel_rfl
theorem spec_any (v : Value) (l : List (ByteArray × ByteArray)) (s : ByteArray) (w : World) (hr : PrReads w v l) (hlen : l.length ≤ 1048576) :
    Calls Try.prog 45 #[v, .string s] w fun e w' => e = .returned (.tuple #[.string (prGetS l s), .bool (prGetB l s)]) ∧ Below w.heap.size w w' := specFieldsGet_any v l s w hr hlen
theorem impl_any (v : Value) (l : List (ByteArray × ByteArray)) (s : ByteArray) (w : World) (hr : PrReads w v l) (hlen : l.length ≤ 1048576) :
    Calls Try.prog 46 #[v, .string s] w fun e w' => e = .returned (.tuple #[.string (prGetS l s), .bool (prGetB l s)]) ∧ Below w.heap.size w w' := implFieldsGet_any v l s w hr hlen

set_option maxHeartbeats 8000000 in
theorem walk (v0 : Value) (l0 : List (ByteArray × ByteArray)) (a1 : ByteArray) (w : World) (hr0 : PrReads w v0 l0) (hs0 : prFit l0) (hlen0 : l0.length ≤ maxLen) (wf1 : a1.size ≤ maxLen) :
    Calls Try.prog 12 #[v0, .string a1] w fun e w' => e = .returned (.bool true) ∧ Below w.heap.size w w' := by
  have wg1 := wf1
  unfold maxLen at wg1
  rcases Int.lt_or_le (1048576 : Int) (a1.size : Int) with hx1 | hx1
  · go_enter Try.func12, Try.ntmps12
    go_wp2_with fail
    go_ret
    exact ⟨rfl, Below.refl _ _⟩
  ·
    go_enter Try.func12, Try.ntmps12
    have HB0 := Below.refl w.heap.size w
    have hW0 : w.heap.size ≤ w.heap.size := Nat.le_refl _
    go_wp2_with fail
    refine (szPairS_any v0 l0 _ _ (readsR_kept hr0 HB0) (by omega) (by omega) hs0 hlen0).mono ?_
    rintro e w1 ⟨rfl, hb1⟩
    have HB1 := HB0.trans (hb1.mono hW0)
    have hW1 := HB1.size
    have hM1 := hb1.size
    clear hb1 HB0
    rcases Int.lt_or_le (szW prW l0 1048576) 0 with hz0 | hz0
    ·
      go_wp2_with fail
      go_ret
      exact ⟨rfl, HB1⟩
    ·
      have hq0 := szW_len prW_pos hz0
      have hl0 : l0.length ≤ 1048576 := by have := hq0.1; omega
      have hp0 := hq0.2.1
      go_wp2_with fail
      have hne0 := ne_self (prGetS l0 a1)
      refine (toPairS_own v0 l0 _ (readsR_kept hr0 HB1) hl0).mono ?_
      rintro e w2 ⟨p0, rfl, op0_2, hb2⟩
      have HB2 := HB1.trans (hb2.mono hW1)
      have hW2 := HB2.size
      have hM2 := hb2.size
      clear hb2 HB1
      go_wp2_with fail
      refine (spec_any p0 l0 a1 _ (ownR_reads prC_len op0_2) hl0 ).mono ?_
      rintro e w3 ⟨rfl, hb3⟩
      have HB3 := HB2.trans (hb3.mono hW2)
      have hW3 := HB3.size
      have hM3 := hb3.size
      have op0_3 := ownR_kept op0_2 hb3
      clear hb3 HB2 op0_2
      go_wp2_with fail
      clear op0_3
      refine (toPairS_own v0 l0 _ (readsR_kept hr0 HB3) hl0).mono ?_
      rintro e w4 ⟨x0, rfl, ox0_4, hb4⟩
      have HB4 := HB3.trans (hb4.mono hW3)
      have hW4 := HB4.size
      have hM4 := hb4.size
      clear hb4 HB3
      go_wp2_with fail
      refine (impl_any x0 l0 a1 _ (ownR_reads prC_len ox0_4) hl0 ).mono ?_
      rintro e w5 ⟨rfl, hb5⟩
      have HB5 := HB4.trans (hb5.mono hW4)
      have hW5 := HB5.size
      have hM5 := hb5.size
      have ox0_5 := ownR_kept ox0_4 hb5
      clear hb5 HB4 ox0_4
      go_wp2_with fail
      refine (toPairS_own v0 l0 _ (readsR_kept hr0 HB5) hl0).mono ?_
      rintro e w6 ⟨y0, rfl, oy0_6, hb6⟩
      have HB6 := HB5.trans (hb6.mono hW5)
      have hW6 := HB6.size
      have hM6 := hb6.size
      have ox0_6 := ownR_kept ox0_5 hb6
      clear hb6 HB5 ox0_5
      go_wp2_with fail
      refine (eqPairS_true x0 y0 (l0) _ (ownR_reads prC_len ox0_6) (ownR_reads prC_len oy0_6) hl0).mono ?_
      rintro e w7 ⟨rfl, hb7⟩
      have HB7 := HB6.trans (hb7.mono hW6)
      have hW7 := HB7.size
      have hM7 := hb7.size
      have ox0_7 := ownR_kept ox0_6 hb7
      have oy0_7 := ownR_kept oy0_6 hb7
      clear hb7 HB6 ox0_6 oy0_6
      go_wp2_with fail
      clear oy0_7
      go_ret
      exact ⟨rfl, HB7⟩

set_option maxRecDepth 100000 in
theorem lifted (os : Os) (started : os.Started) (H : Type) (enc : TypeId × Value → H) :
    ReturnsInHanded {} Try.checked os 12 .any (Rows.fnExactFieldsGetSpec.pre6 enc Try.prog Try.f12 Rows.fnExactFieldsGetRow.domain false) (Rows.fnExactFieldsGetSpec.post enc Try.prog Try.f12 false true false false) := by
  refine returnsInHanded_of_change (C := Try.checked) own started (by kernel_rfl) Try.func12
    (ChangeSpec.witness6 (enc := enc) (C := Try.checked) false ⟨#[], #[.slice none 0 0, .string ByteArray.empty], []⟩ 8 (by kernel_rfl) (by kernel_rfl) (by kernel_rfl) (by kernel_rfl)) ?_
  intro W base args ds gs before hval0 hW hcnd _
  have hval : ∀ (j : Nat) t v, Try.f12.params[j]? = some t → args[j]? = some v → Value.okWide Try.prog W .any base t v := hval0
  have hW' := hW
  obtain ⟨p, q, hA0, hV, rfl, hfz, hnd⟩ := hW
  have hA : DataW.TrodAll enc Try.prog W 0 (fun _ => true) true Try.f12.params.toList args.toList ds p := hA0
  rw [Try.params12] at hA hval
  obtain ⟨v0, vs0, d0, ds0, p0, q0, hargs, rfl, rfl, h0, r0⟩ := trodAll_cons hA
  obtain ⟨v1, vs1, d1, ds1, p1, q1, rfl, rfl, rfl, h1, r1⟩ := trodAll_cons r0
  obtain ⟨rfl, rfl, rfl⟩ := trodAll_nil r1
  obtain rfl : args = #[v0, v1] := by cases args; simp_all
  obtain ⟨rfl, rfl⟩ := trodVars_none hV
  obtain ⟨a0, len0, cap0, rfl⟩ := okWide_slice Try.underlying44 (hval 0 44 v0 rfl rfl)
  have k0 := h0
  have lt0 : ∀ x ∈ p0, x.block < W.heap.size := by obtain ⟨m, hm⟩ := k0; exact DataW.trod_lt m _ _ _ hm
  obtain ⟨l0, w0⟩ : ∃ l, PrReads W (.slice a0 len0 cap0) l ∧ prFit l ∧ l.length ≤ maxLen := by
    obtain ⟨fuel, hf⟩ := h0
    exact pr_open (by simp [Value.cells]) hf
  obtain ⟨a1, rfl, rfl, rfl, w1⟩ := open_string Try.underlying9 (hval 1 9 v1 rfl rfl) h1
  clear hA0 hval0
  refine (walk (.slice a0 len0 cap0) l0 a1 W w0.1 w0.2.1 w0.2.2 w1).mono fun e W' ⟨he, bel⟩ => ?_
  subst he
  exact ⟨_, rfl, _, _, _, [], _, [], hW', trodAll_mk1 (shut_bool Try.underlying4 _), (trodAll_cons_mk (Below.trod laidOut (by kernel_rfl) (of_decide_eq_true (by kernel_rfl)) k0 bel lt0) (trodAll_cons_mk (shut_string Try.underlying9 w1) trodAll_mk0)), rfl, bel.frame _, fun h => by cases h⟩

theorem over : Rows.fnExactFieldsGetRow.holds Try.pinned (OpenSpec.ofChange Rows.fnExactFieldsGetSpec) :=
  OpenClaim.holds_of_wide 12 Try.f12 rfl rfl rfl rfl rfl rfl rfl ⟨rfl, rfl, rfl, rfl, rfl⟩ rfl rfl rfl rfl rfl (by kernel_rfl) Try.func12 (by kernel_rfl)
    (of_decide_eq_true (by kernel_rfl)) (by unfold Func.isWrapper; first | (rw [if_pos (by decide +kernel)]; kernel_rfl) | (rw [if_neg (by decide +kernel)]; exact ⟨rfl, rfl⟩))
    (fun os started H enc _ => lifted os started H enc)

theorem proved : Rows.FnExactFieldsGetSaid := over
end Go.Proofs.Ytjhlpblegbaemaa.fnExactFieldsGet
