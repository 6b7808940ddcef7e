/- Proved: at every two lists of texts SetDrop answers as its model, field by field; it writes into no argument; its answer owns its memory, behind another call too. No condition. -/
import Derived.Test.YtlgchkmgbjcboaaSetAD
import Derived.Test.YtlgchkmgbjcboaaOwn
import Derived.ProofKit
import Derived.OpenShut
import Derived.ShutString
import Derived.ChangeOld
import Derived.Below
import Derived.Deep.RegionWith
namespace Go.Proofs.Ytlgchkmgbjcboaa.fnExactSetDrop
open Go.ChangeShapes Go.WideShapes Go.ChangeAt Go.RowKit
open Go.ChangeMaps (open_string shut_string)
set_option linter.unusedVariables false

theorem own : ownKnob Try.prog.godebug = none := by kernel_rfl
theorem laidOut : laidOutB Try.prog = true := by kernel_rfl

theorem res_len0 (a b : List ByteArray) (h : a.length ≤ 1048576) (h2 : b.length ≤ 1048576) : (sdropR a b).length ≤ 1048576 := by
  unfold sdropR; split
  · have := lessM_len a b; omega
  · simp
theorem spec_any (v : Value) (a : List ByteArray) (u : Value) (b : List ByteArray) (w : World) (hr : Reads w v a) (ha : a.length ≤ 1048576) (hq : Reads w u b) (hb : b.length ≤ 1048576) :
    Calls Try.prog 21 #[v, u] w fun e w' => ∃ x, e = .returned (.tuple #[x, .int .i64 (sdropN a b)]) ∧ Own w' w.heap.size w'.heap.size x (sdropR a b) ∧ Below w.heap.size w w' :=
  (specSDrop_any v u a b w hr hq ha hb).mono fun _ _ ⟨x, h, ho, hB⟩ => ⟨x, h, own_of ho, hB⟩
theorem impl_any (v : Value) (a : List ByteArray) (u : Value) (b : List ByteArray) (w : World) (hr : Reads w v a) (ha : a.length ≤ 1048576) (hq : Reads w u b) (hb : b.length ≤ 1048576) :
    Calls Try.prog 20 #[v, u] w fun e w' => ∃ x, e = .returned (.tuple #[x, .int .i64 (sdropN a b)]) ∧ Own w' w.heap.size w'.heap.size x (sdropR a b) ∧ Below w.heap.size w w' :=
  (implSDrop_any v u a b w hr hq ha hb).mono fun _ _ ⟨x, h, ho, hB⟩ => ⟨x, h, own_of ho, hB⟩

set_option maxHeartbeats 8000000 in
theorem walk (v0 : Value) (l0 : List ByteArray) (v1 : Value) (l1 : List ByteArray) (w : World) (hr0 : Reads w v0 l0) (hs0 : ∀ s ∈ l0, s.size ≤ maxLen) (hlen0 : l0.length ≤ maxLen) (hr1 : Reads w v1 l1) (hs1 : ∀ s ∈ l1, s.size ≤ maxLen) (hlen1 : l1.length ≤ maxLen) :
    Calls Try.prog 7 #[v0, v1] w fun e w' => e = .returned (.bool true) ∧ Below w.heap.size w w' := by
  rcases Int.lt_or_le (sz l0 1048576) 0 with hz0 | hz0
  ·
    go_enter Try.func7, Try.ntmps7
    go_wp2_with (first | (go_at_call_of 29 v0; refine (sz_any v0 l0 _ _ hr0 (by omega) (by omega) hs0 hlen0).mono ?_; rintro e w' ⟨rfl, rfl⟩))
    go_ret
    exact ⟨rfl, Below.refl _ _⟩
  ·
    have hq0 := sz_len hz0
    have hl0 : l0.length ≤ 1048576 := by have := hq0.1; omega
    have hp0 := hq0.2.1
    rcases Int.lt_or_le (sz l1 (sz l0 1048576)) 0 with hz1 | hz1
    ·
      go_enter Try.func7, Try.ntmps7
      go_wp2_with (first | (go_at_call_of 29 v0; refine (sz_any v0 l0 _ _ hr0 (by omega) (by omega) hs0 hlen0).mono ?_; rintro e w' ⟨rfl, rfl⟩) | (go_at_call_of 29 v1; refine (sz_any v1 l1 _ _ hr1 (by omega) (by omega) hs1 hlen1).mono ?_; rintro e w' ⟨rfl, rfl⟩))
      go_ret
      exact ⟨rfl, Below.refl _ _⟩
    ·
      have hq1 := sz_len hz1
      have hl1 : l1.length ≤ 1048576 := by have := hq1.1; omega
      have hp1 := hq1.2.1
      have HB0 := Below.refl w.heap.size w
      have hW0 : w.heap.size ≤ w.heap.size := Nat.le_refl _
      have hR0 : (sdropR l0 l1).length ≤ 1048576 := res_len0 l0 l1 hl0 hl1
      go_enter Try.func7, Try.ntmps7
      go_wp2_with (first | (go_at_call_of 29 v0; refine (sz_any v0 l0 _ _ hr0 (by omega) (by omega) hs0 hlen0).mono ?_; rintro e w' ⟨rfl, rfl⟩) | (go_at_call_of 29 v1; refine (sz_any v1 l1 _ _ hr1 (by omega) (by omega) hs1 hlen1).mono ?_; rintro e w' ⟨rfl, rfl⟩))
      refine (to_own v0 l0 _ (reads_kept hr0 HB0) hl0).mono ?_
      rintro e w1 ⟨p0, rfl, op0_1, hb1⟩
      have HB1 := below_step HB0 hW0 hb1
      have hW1 := HB1.size
      have hM1 := hb1.size
      clear hb1 HB0
      go_wp2_with fail
      refine (to_own v1 l1 _ (reads_kept hr1 HB1) hl1).mono ?_
      rintro e w2 ⟨p1, rfl, op1_2, hb2⟩
      have HB2 := below_step HB1 hW1 hb2
      have hW2 := HB2.size
      have hM2 := hb2.size
      have op0_2 := own_kept op0_1 hb2
      clear hb2 HB1 op0_1
      go_wp2_with fail
      refine (spec_any p0 l0 p1 l1 _ (own_reads op0_2) hl0 (own_reads op1_2) hl1 ).mono ?_
      rintro e w3 ⟨s0, rfl, os0_3, hb3⟩
      have HB3 := below_step HB2 hW2 hb3
      have hW3 := HB3.size
      have hM3 := hb3.size
      have op0_3 := own_kept op0_2 hb3
      have op1_3 := own_kept op1_2 hb3
      clear hb3 HB2 op0_2 op1_2
      go_wp2_with fail
      clear op0_3 op1_3
      refine (to_own v0 l0 _ (reads_kept hr0 HB3) hl0).mono ?_
      rintro e w4 ⟨x0, rfl, ox0_4, hb4⟩
      have HB4 := below_step HB3 hW3 hb4
      have hW4 := HB4.size
      have hM4 := hb4.size
      have os0_4 := own_kept os0_3 hb4
      clear hb4 HB3 os0_3
      go_wp2_with fail
      refine (to_own v1 l1 _ (reads_kept hr1 HB4) hl1).mono ?_
      rintro e w5 ⟨x1, rfl, ox1_5, hb5⟩
      have HB5 := below_step HB4 hW4 hb5
      have hW5 := HB5.size
      have hM5 := hb5.size
      have os0_5 := own_kept os0_4 hb5
      have ox0_5 := own_kept ox0_4 hb5
      clear hb5 HB4 os0_4 ox0_4
      go_wp2_with fail
      refine (impl_any x0 l0 x1 l1 _ (own_reads ox0_5) hl0 (own_reads ox1_5) hl1 ).mono ?_
      rintro e w6 ⟨g0, rfl, og0_6, hb6⟩
      have HB6 := below_step HB5 hW5 hb6
      have hW6 := HB6.size
      have hM6 := hb6.size
      have os0_6 := own_kept os0_5 hb6
      have ox0_6 := own_kept ox0_5 hb6
      have ox1_6 := own_kept ox1_5 hb6
      clear hb6 HB5 os0_5 ox0_5 ox1_5
      go_wp2_with fail
      refine (eq_true g0 s0 (sdropR l0 l1) _ (own_reads og0_6) (own_reads os0_6) hR0).mono ?_
      rintro e w7 ⟨rfl, hb7⟩
      have HB7 := below_step HB6 hW6 hb7
      have hW7 := HB7.size
      have hM7 := hb7.size
      have os0_7 := own_kept os0_6 hb7
      have ox0_7 := own_kept ox0_6 hb7
      have ox1_7 := own_kept ox1_6 hb7
      have og0_7 := own_kept og0_6 hb7
      clear hb7 HB6 os0_6 ox0_6 ox1_6 og0_6
      go_wp2_with fail
      refine (to_own v0 l0 _ (reads_kept hr0 HB7) hl0).mono ?_
      rintro e w8 ⟨y0, rfl, oy0_8, hb8⟩
      have HB8 := below_step HB7 hW7 hb8
      have hW8 := HB8.size
      have hM8 := hb8.size
      have os0_8 := own_kept os0_7 hb8
      have ox0_8 := own_kept ox0_7 hb8
      have ox1_8 := own_kept ox1_7 hb8
      have og0_8 := own_kept og0_7 hb8
      clear hb8 HB7 os0_7 ox0_7 ox1_7 og0_7
      go_wp2_with fail
      refine (eq_true x0 y0 (l0) _ (own_reads ox0_8) (own_reads oy0_8) hl0).mono ?_
      rintro e w9 ⟨rfl, hb9⟩
      have HB9 := below_step HB8 hW8 hb9
      have hW9 := HB9.size
      have hM9 := hb9.size
      have os0_9 := own_kept os0_8 hb9
      have ox0_9 := own_kept ox0_8 hb9
      have ox1_9 := own_kept ox1_8 hb9
      have og0_9 := own_kept og0_8 hb9
      have oy0_9 := own_kept oy0_8 hb9
      clear hb9 HB8 os0_8 ox0_8 ox1_8 og0_8 oy0_8
      go_wp2_with fail
      clear oy0_9
      refine (to_own v1 l1 _ (reads_kept hr1 HB9) hl1).mono ?_
      rintro e w10 ⟨y1, rfl, oy1_10, hb10⟩
      have HB10 := below_step HB9 hW9 hb10
      have hW10 := HB10.size
      have hM10 := hb10.size
      have os0_10 := own_kept os0_9 hb10
      have ox0_10 := own_kept ox0_9 hb10
      have ox1_10 := own_kept ox1_9 hb10
      have og0_10 := own_kept og0_9 hb10
      clear hb10 HB9 os0_9 ox0_9 ox1_9 og0_9
      go_wp2_with fail
      refine (eq_true x1 y1 (l1) _ (own_reads ox1_10) (own_reads oy1_10) hl1).mono ?_
      rintro e w11 ⟨rfl, hb11⟩
      have HB11 := below_step HB10 hW10 hb11
      have hW11 := HB11.size
      have hM11 := hb11.size
      have os0_11 := own_kept os0_10 hb11
      have ox0_11 := own_kept ox0_10 hb11
      have ox1_11 := own_kept ox1_10 hb11
      have og0_11 := own_kept og0_10 hb11
      have oy1_11 := own_kept oy1_10 hb11
      clear hb11 HB10 os0_10 ox0_10 ox1_10 og0_10 oy1_10
      go_wp2_with fail
      clear oy1_11
      refine (mark_own x0 (l0) _ _ _ ox0_11 hl0).mono ?_
      rintro e w12 ⟨rfl, ox0_12, hb12⟩
      have HB12 := below_own HB11 hW11 ox0_11 (by omega) hb12
      have hW12 := HB12.size
      have hM12 := hb12.size
      have os0_12 := own_apart os0_11 ox0_11 hb12 (by omega)
      have ox1_12 := own_apart ox1_11 ox0_11 hb12 (by omega)
      have og0_12 := own_apart og0_11 ox0_11 hb12 (by omega)
      clear hb12 HB11 os0_11 ox1_11 og0_11 ox0_11
      go_wp2_with fail
      refine (mark_own_from x1 (l1) _ _ _ _ ox1_12 (by omega) (by omega) hl1).mono ?_
      rintro e w13 ⟨rfl, ox1_13, hb13⟩
      have HB13 := below_own HB12 hW12 ox1_12 (by omega) hb13
      have hW13 := HB13.size
      have hM13 := hb13.size
      have os0_13 := own_apart os0_12 ox1_12 hb13 (by omega)
      have ox0_13 := own_apart ox0_12 ox1_12 hb13 (by omega)
      have og0_13 := own_apart og0_12 ox1_12 hb13 (by omega)
      clear hb13 HB12 os0_12 ox0_12 og0_12 ox1_12
      go_wp2_with fail
      clear ox0_13 ox1_13
      refine (eq_true g0 s0 (sdropR l0 l1) _ (own_reads og0_13) (own_reads os0_13) hR0).mono ?_
      rintro e w14 ⟨rfl, hb14⟩
      have HB14 := below_step HB13 hW13 hb14
      have hW14 := HB14.size
      have hM14 := hb14.size
      have os0_14 := own_kept os0_13 hb14
      have og0_14 := own_kept og0_13 hb14
      clear hb14 HB13 os0_13 og0_13
      go_wp2_with fail
      refine (mark_own g0 (sdropR l0 l1) _ _ _ og0_14 hR0).mono ?_
      rintro e w15 ⟨rfl, og0_15, hb15⟩
      have HB15 := below_own HB14 hW14 og0_14 (by omega) hb15
      have hW15 := HB15.size
      have hM15 := hb15.size
      have os0_15 := own_apart os0_14 og0_14 hb15 (by omega)
      clear hb15 HB14 os0_14 og0_14
      go_wp2_with fail
      refine (held_own g0 (sdropR l0 l1).length _ _ _ og0_15 hR0).mono ?_
      rintro e w16 ⟨rfl, hb16⟩
      have HB16 := below_step HB15 hW15 hb16
      have hW16 := HB16.size
      have hM16 := hb16.size
      have os0_16 := own_kept os0_15 hb16
      have og0_16 := own_kept og0_15 hb16
      clear hb16 HB15 os0_15 og0_15
      go_wp2_with fail
      refine (to_own v0 l0 _ (reads_kept hr0 HB16) hl0).mono ?_
      rintro e w17 ⟨z0, rfl, oz0_17, hb17⟩
      have HB17 := below_step HB16 hW16 hb17
      have hW17 := HB17.size
      have hM17 := hb17.size
      have os0_17 := own_kept os0_16 hb17
      have og0_17 := own_kept og0_16 hb17
      clear hb17 HB16 os0_16 og0_16
      go_wp2_with fail
      refine (to_own v1 l1 _ (reads_kept hr1 HB17) hl1).mono ?_
      rintro e w18 ⟨z1, rfl, oz1_18, hb18⟩
      have HB18 := below_step HB17 hW17 hb18
      have hW18 := HB18.size
      have hM18 := hb18.size
      have os0_18 := own_kept os0_17 hb18
      have og0_18 := own_kept og0_17 hb18
      have oz0_18 := own_kept oz0_17 hb18
      clear hb18 HB17 os0_17 og0_17 oz0_17
      go_wp2_with fail
      refine (impl_any z0 l0 z1 l1 _ (own_reads oz0_18) hl0 (own_reads oz1_18) hl1 ).mono ?_
      rintro e w19 ⟨h0, rfl, oh0_19, hb19⟩
      have HB19 := below_step HB18 hW18 hb19
      have hW19 := HB19.size
      have hM19 := hb19.size
      have os0_19 := own_kept os0_18 hb19
      have og0_19 := own_kept og0_18 hb19
      have oz0_19 := own_kept oz0_18 hb19
      have oz1_19 := own_kept oz1_18 hb19
      clear hb19 HB18 os0_18 og0_18 oz0_18 oz1_18
      go_wp2_with fail
      clear oz0_19 oz1_19
      refine (eq_true h0 s0 (sdropR l0 l1) _ (own_reads oh0_19) (own_reads os0_19) hR0).mono ?_
      rintro e w20 ⟨rfl, hb20⟩
      have HB20 := below_step HB19 hW19 hb20
      have hW20 := HB20.size
      have hM20 := hb20.size
      have os0_20 := own_kept os0_19 hb20
      have og0_20 := own_kept og0_19 hb20
      have oh0_20 := own_kept oh0_19 hb20
      clear hb20 HB19 os0_19 og0_19 oh0_19
      go_wp2_with fail
      refine (held_own g0 (sdropR l0 l1).length _ _ _ og0_20 hR0).mono ?_
      rintro e w21 ⟨rfl, hb21⟩
      have HB21 := below_step HB20 hW20 hb21
      have hW21 := HB21.size
      have hM21 := hb21.size
      have os0_21 := own_kept os0_20 hb21
      have og0_21 := own_kept og0_20 hb21
      have oh0_21 := own_kept oh0_20 hb21
      clear hb21 HB20 os0_20 og0_20 oh0_20
      go_wp2_with fail
      go_ret
      exact ⟨rfl, HB21⟩

set_option maxRecDepth 100000 in
theorem lifted (os : Os) (started : os.Started) (H : Type) (enc : TypeId × Value → H) :
    ReturnsInHanded {} Try.checked os 7 .any (Rows.fnExactSetDropSpec.pre6 enc Try.prog Try.f7 Rows.fnExactSetDropRow.domain false) (Rows.fnExactSetDropSpec.post enc Try.prog Try.f7 false true false false) := by
  refine returnsInHanded_of_change (C := Try.checked) own started (by kernel_rfl) Try.func7
    (ChangeSpec.witness6 (enc := enc) (C := Try.checked) false ⟨#[], #[.slice none 0 0, .slice none 0 0], []⟩ 8 (by kernel_rfl) (by kernel_rfl) (by kernel_rfl) (by kernel_rfl)) ?_
  intro W base args ds gs before hval0 hW hcnd _
  have hval : ∀ (j : Nat) t v, Try.f7.params[j]? = some t → args[j]? = some v → Value.okWide Try.prog W .any base t v := hval0
  have hW' := hW
  obtain ⟨p, q, hA0, hV, rfl, hfz, hnd⟩ := hW
  have hA : DataW.TrodAll enc Try.prog W 0 (fun _ => true) true Try.f7.params.toList args.toList ds p := hA0
  rw [Try.params7] at hA hval
  obtain ⟨v0, vs0, d0, ds0, p0, q0, hargs, rfl, rfl, h0, r0⟩ := trodAll_cons hA
  obtain ⟨v1, vs1, d1, ds1, p1, q1, rfl, rfl, rfl, h1, r1⟩ := trodAll_cons r0
  obtain ⟨rfl, rfl, rfl⟩ := trodAll_nil r1
  obtain rfl : args = #[v0, v1] := by cases args; simp_all
  obtain ⟨rfl, rfl⟩ := trodVars_none hV
  obtain ⟨a0, len0, cap0, rfl⟩ := okWide_slice Try.underlying23 (hval 0 23 v0 rfl rfl)
  have k0 := h0
  have lt0 : ∀ x ∈ p0, x.block < W.heap.size := by obtain ⟨m, hm⟩ := k0; exact DataW.trod_lt m _ _ _ hm
  obtain ⟨l0, w0⟩ : ∃ l, Reads W (.slice a0 len0 cap0) l ∧ (∀ s ∈ l, s.size ≤ maxLen) ∧ l.length ≤ maxLen := by
    obtain ⟨fuel, hf⟩ := h0
    rcases open_strings Try.underlying23 Try.underlying9 (by kernel_rfl) hf with ⟨hcs, _⟩ | ⟨x, ln, cp, ss, hcs, _, hl, hm, hz, _, hcell, hws⟩
    · exact reads_of_none (by simpa [Value.cells] using hcs)
    · exact reads_of_some (by simpa [Value.cells] using hcs) hl hm (by simpa using hz) hcell hws
  obtain ⟨a1, len1, cap1, rfl⟩ := okWide_slice Try.underlying23 (hval 1 23 v1 rfl rfl)
  have k1 := h1
  have lt1 : ∀ x ∈ p1, x.block < W.heap.size := by obtain ⟨m, hm⟩ := k1; exact DataW.trod_lt m _ _ _ hm
  obtain ⟨l1, w1⟩ : ∃ l, Reads W (.slice a1 len1 cap1) l ∧ (∀ s ∈ l, s.size ≤ maxLen) ∧ l.length ≤ maxLen := by
    obtain ⟨fuel, hf⟩ := h1
    rcases open_strings Try.underlying23 Try.underlying9 (by kernel_rfl) hf with ⟨hcs, _⟩ | ⟨x, ln, cp, ss, hcs, _, hl, hm, hz, _, hcell, hws⟩
    · exact reads_of_none (by simpa [Value.cells] using hcs)
    · exact reads_of_some (by simpa [Value.cells] using hcs) hl hm (by simpa using hz) hcell hws
  clear hA0 hval0
  refine (walk (.slice a0 len0 cap0) l0 (.slice a1 len1 cap1) l1 W w0.1 w0.2.1 w0.2.2 w1.1 w1.2.1 w1.2.2).mono fun e W' ⟨he, bel⟩ => ?_
  subst he
  exact ⟨_, rfl, _, _, _, [], _, [], hW', trodAll_mk1 (shut_bool Try.underlying4 _), (trodAll_cons_mk (Below.trod laidOut (by kernel_rfl) (of_decide_eq_true (by kernel_rfl)) k0 bel lt0) (trodAll_cons_mk (Below.trod laidOut (by kernel_rfl) (of_decide_eq_true (by kernel_rfl)) k1 bel lt1) trodAll_mk0)), rfl, bel.frame _, fun h => by cases h⟩

theorem over : Rows.fnExactSetDropRow.holds Try.pinned (OpenSpec.ofChange Rows.fnExactSetDropSpec) :=
  OpenClaim.holds_of_wide 7 Try.f7 rfl rfl rfl rfl rfl rfl rfl ⟨rfl, rfl, rfl, rfl, rfl⟩ rfl rfl rfl rfl rfl (by kernel_rfl) Try.func7 (by kernel_rfl)
    (of_decide_eq_true (by kernel_rfl)) (by unfold Func.isWrapper; first | (rw [if_pos (by decide +kernel)]; kernel_rfl) | (rw [if_neg (by decide +kernel)]; exact ⟨rfl, rfl⟩))
    (fun os started H enc _ => lifted os started H enc)

theorem proved : Rows.FnExactSetDropSaid := over
end Go.Proofs.Ytlgchkmgbjcboaa.fnExactSetDrop
