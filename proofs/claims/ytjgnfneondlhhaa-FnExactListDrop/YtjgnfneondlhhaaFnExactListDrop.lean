/- Proved: at every list of texts, a count and a text, ListDrop answers as its model, field by field; it writes into no argument; its answer owns its memory, behind another call too. No condition. -/
import Derived.Test.YtjgnfneondlhhaaDropS
import Derived.Test.YtjgnfneondlhhaaOwn
import Derived.ProofKit
import Derived.OpenShut
import Derived.ShutString
import Derived.ChangeOld
import Derived.Below
import Derived.Deep.RegionWith
namespace Go.Proofs.Ytjgnfneondlhhaa.fnExactListDrop
open Go.ChangeShapes Go.WideShapes Go.ChangeAt Go.RowKit
open Go.ChangeMaps (open_string shut_string)
set_option linter.unusedVariables false

theorem own : ownKnob Try.prog.godebug = none := by kernel_rfl
theorem laidOut : laidOutB Try.prog = true := by kernel_rfl

theorem res_len0 (l : List ByteArray) (c : Int) (t : ByteArray) (h : l.length ≤ 1048576) : (dropR l c t).length ≤ 1048576 := by
  unfold dropR; split
  · rw [turn_len]; have := runD_bd t (limD l c) (turn (frontD c) l); rw [turn_len] at this; unfold runC; omega
  · simp
theorem specDrop_any (v : Value) (l : List ByteArray) (c : Int) (t : ByteArray) (w : World) (hr : Reads w v l) (hlen : l.length ≤ 1048576) :
    Calls Try.prog 32 #[v, .int .i64 c, .string t] w fun e w' => ∃ u, e = .returned (.tuple #[u, .int .i64 (dropN l c t)]) ∧ Owns w' w.heap.size u (dropR l c t) ∧ Below w.heap.size w w' := by
  cases hb : dropB l c with
  | false => unfold dropN dropR; rw [hb]; exact specDrop_bad v l c t w hr hlen hb
  | true =>
    have hb' := hb
    unfold dropB at hb'; rw [Bool.and_eq_true] at hb'
    have bp := place_bd hb'.2
    unfold dropN dropR runC; rw [hb]
    rcases (show c < 0 ∨ c = 0 ∨ 0 < c by omega) with h | h | h
    · obtain ⟨m, rfl⟩ : ∃ m : Nat, c = -(m : Int) := ⟨c.natAbs, by omega⟩
      have hF : frontD (-(m : Int)) = false := by unfold frontD; simp; omega
      have hM : limD l (-(m : Int)) = m := by unfold limD; rw [if_neg (by omega)]; omega
      rw [hF, hM]; exact specDrop_neg v l m t w hr hb'.1 (by omega) (by omega)
    · subst h
      have hF : frontD 0 = true := rfl
      have hM : limD l 0 = l.length := rfl
      rw [hF, hM]; exact specDrop_all v l t w hr hb'.1
    · obtain ⟨m, rfl⟩ : ∃ m : Nat, c = (m : Int) := ⟨c.natAbs, by omega⟩
      have hF : frontD (m : Int) = true := by unfold frontD; simp
      have hM : limD l (m : Int) = m := by unfold limD; rw [if_neg (by omega)]; omega
      rw [hF, hM]; exact specDrop_pos v l m t w hr hb'.1 (by omega) (by omega)
theorem spec_any (v : Value) (l : List ByteArray) (c : Int) (t : ByteArray) (w : World) (hr : Reads w v l) (hlen : l.length ≤ 1048576) :
    Calls Try.prog 32 #[v, .int .i64 c, .string t] w fun e w' => ∃ u, e = .returned (.tuple #[u, .int .i64 (dropN l c t)]) ∧ Own w' w.heap.size w'.heap.size u (dropR l c t) ∧ Below w.heap.size w w' :=
  (specDrop_any v l c t w hr hlen).mono fun _ _ ⟨u, h, ho, hB⟩ => ⟨u, h, own_of ho, hB⟩
theorem impl_any (v : Value) (l : List ByteArray) (c : Int) (t : ByteArray) (w : World) (hr : Reads w v l) (hlen : l.length ≤ 1048576) :
    Calls Try.prog 33 #[v, .int .i64 c, .string t] w fun e w' => ∃ u, e = .returned (.tuple #[u, .int .i64 (dropN l c t)]) ∧ Own w' w.heap.size w'.heap.size u (dropR l c t) ∧ Below w.heap.size w w' :=
  (implDrop_any v l c t w hr hlen).mono fun _ _ ⟨u, h, ho, hB⟩ => ⟨u, h, own_of ho, hB⟩

set_option maxHeartbeats 8000000 in
theorem walk (v0 : Value) (l0 : List ByteArray) (a1 : Int) (a2 : ByteArray) (w : World) (hr0 : Reads w v0 l0) (hs0 : ∀ s ∈ l0, s.size ≤ maxLen) (hlen0 : l0.length ≤ maxLen) (wf1 : (Lit.int .i64 a1).wf = true) (wf2 : a2.size ≤ maxLen) :
    Calls Try.prog 9 #[v0, .int .i64 a1, .string a2] w fun e w' => e = .returned (.bool true) ∧ Below w.heap.size w w' := by
  have bd1 : -9223372036854775808 ≤ a1 ∧ a1 ≤ 9223372036854775807 := by simpa [Lit.wf, IntKind.min, IntKind.max, IntKind.signed, IntKind.bits] using wf1
  have wg2 := wf2
  unfold maxLen at wg2
  rcases Int.lt_or_le (1048576 : Int) (a2.size : Int) with hx2 | hx2
  · go_enter Try.func9, Try.ntmps9
    go_wp2_with fail
    go_ret
    exact ⟨rfl, Below.refl _ _⟩
  ·
    rcases Int.lt_or_le (sz l0 1048576) 0 with hz0 | hz0
    ·
      go_enter Try.func9, Try.ntmps9
      go_wp2_with (first | (go_at_call_of 15 v0; refine (sz_any v0 l0 _ _ hr0 (by omega) (by omega) hs0 hlen0).mono ?_; rintro e w' ⟨rfl, rfl⟩))
      go_ret
      exact ⟨rfl, Below.refl _ _⟩
    ·
      have hq0 := sz_len hz0
      have hl0 : l0.length ≤ 1048576 := by have := hq0.1; omega
      have hp0 := hq0.2.1
      have HB0 := Below.refl w.heap.size w
      have hW0 : w.heap.size ≤ w.heap.size := Nat.le_refl _
      have hR0 : (dropR l0 a1 a2).length ≤ 1048576 := res_len0 l0 a1 a2 hl0
      go_enter Try.func9, Try.ntmps9
      go_wp2_with (first | (go_at_call_of 15 v0; refine (sz_any v0 l0 _ _ hr0 (by omega) (by omega) hs0 hlen0).mono ?_; rintro e w' ⟨rfl, rfl⟩))
      refine (to_own v0 l0 _ (reads_kept hr0 HB0) hl0).mono ?_
      rintro e w1 ⟨p0, rfl, op0_1, hb1⟩
      have HB1 := below_step HB0 hW0 hb1
      have hW1 := HB1.size
      have hM1 := hb1.size
      clear hb1 HB0
      go_wp2_with fail
      refine (spec_any p0 l0 a1 a2 _ (own_reads op0_1) hl0 ).mono ?_
      rintro e w2 ⟨s0, rfl, os0_2, hb2⟩
      have HB2 := below_step HB1 hW1 hb2
      have hW2 := HB2.size
      have hM2 := hb2.size
      have op0_2 := own_kept op0_1 hb2
      clear hb2 HB1 op0_1
      go_wp2_with fail
      clear op0_2
      refine (to_own v0 l0 _ (reads_kept hr0 HB2) hl0).mono ?_
      rintro e w3 ⟨x0, rfl, ox0_3, hb3⟩
      have HB3 := below_step HB2 hW2 hb3
      have hW3 := HB3.size
      have hM3 := hb3.size
      have os0_3 := own_kept os0_2 hb3
      clear hb3 HB2 os0_2
      go_wp2_with fail
      refine (impl_any x0 l0 a1 a2 _ (own_reads ox0_3) hl0 ).mono ?_
      rintro e w4 ⟨g0, rfl, og0_4, hb4⟩
      have HB4 := below_step HB3 hW3 hb4
      have hW4 := HB4.size
      have hM4 := hb4.size
      have os0_4 := own_kept os0_3 hb4
      have ox0_4 := own_kept ox0_3 hb4
      clear hb4 HB3 os0_3 ox0_3
      go_wp2_with fail
      refine (eq_true g0 s0 (dropR l0 a1 a2) _ (own_reads og0_4) (own_reads os0_4) hR0).mono ?_
      rintro e w5 ⟨rfl, hb5⟩
      have HB5 := below_step HB4 hW4 hb5
      have hW5 := HB5.size
      have hM5 := hb5.size
      have os0_5 := own_kept os0_4 hb5
      have ox0_5 := own_kept ox0_4 hb5
      have og0_5 := own_kept og0_4 hb5
      clear hb5 HB4 os0_4 ox0_4 og0_4
      go_wp2_with fail
      refine (to_own v0 l0 _ (reads_kept hr0 HB5) hl0).mono ?_
      rintro e w6 ⟨y0, rfl, oy0_6, hb6⟩
      have HB6 := below_step HB5 hW5 hb6
      have hW6 := HB6.size
      have hM6 := hb6.size
      have os0_6 := own_kept os0_5 hb6
      have ox0_6 := own_kept ox0_5 hb6
      have og0_6 := own_kept og0_5 hb6
      clear hb6 HB5 os0_5 ox0_5 og0_5
      go_wp2_with fail
      refine (eq_true x0 y0 (l0) _ (own_reads ox0_6) (own_reads oy0_6) hl0).mono ?_
      rintro e w7 ⟨rfl, hb7⟩
      have HB7 := below_step HB6 hW6 hb7
      have hW7 := HB7.size
      have hM7 := hb7.size
      have os0_7 := own_kept os0_6 hb7
      have ox0_7 := own_kept ox0_6 hb7
      have og0_7 := own_kept og0_6 hb7
      have oy0_7 := own_kept oy0_6 hb7
      clear hb7 HB6 os0_6 ox0_6 og0_6 oy0_6
      go_wp2_with fail
      clear oy0_7
      refine (mark_own x0 (l0) _ _ _ ox0_7 hl0).mono ?_
      rintro e w8 ⟨rfl, ox0_8, hb8⟩
      have HB8 := below_own HB7 hW7 ox0_7 (by omega) hb8
      have hW8 := HB8.size
      have hM8 := hb8.size
      have os0_8 := own_apart os0_7 ox0_7 hb8 (by omega)
      have og0_8 := own_apart og0_7 ox0_7 hb8 (by omega)
      clear hb8 HB7 os0_7 og0_7 ox0_7
      go_wp2_with fail
      clear ox0_8
      refine (eq_true g0 s0 (dropR l0 a1 a2) _ (own_reads og0_8) (own_reads os0_8) hR0).mono ?_
      rintro e w9 ⟨rfl, hb9⟩
      have HB9 := below_step HB8 hW8 hb9
      have hW9 := HB9.size
      have hM9 := hb9.size
      have os0_9 := own_kept os0_8 hb9
      have og0_9 := own_kept og0_8 hb9
      clear hb9 HB8 os0_8 og0_8
      go_wp2_with fail
      refine (mark_own g0 (dropR l0 a1 a2) _ _ _ og0_9 hR0).mono ?_
      rintro e w10 ⟨rfl, og0_10, hb10⟩
      have HB10 := below_own HB9 hW9 og0_9 (by omega) hb10
      have hW10 := HB10.size
      have hM10 := hb10.size
      have os0_10 := own_apart os0_9 og0_9 hb10 (by omega)
      clear hb10 HB9 os0_9 og0_9
      go_wp2_with fail
      refine (held_own g0 (dropR l0 a1 a2).length _ _ _ og0_10 hR0).mono ?_
      rintro e w11 ⟨rfl, hb11⟩
      have HB11 := below_step HB10 hW10 hb11
      have hW11 := HB11.size
      have hM11 := hb11.size
      have os0_11 := own_kept os0_10 hb11
      have og0_11 := own_kept og0_10 hb11
      clear hb11 HB10 os0_10 og0_10
      go_wp2_with fail
      refine (to_own v0 l0 _ (reads_kept hr0 HB11) hl0).mono ?_
      rintro e w12 ⟨z0, rfl, oz0_12, hb12⟩
      have HB12 := below_step HB11 hW11 hb12
      have hW12 := HB12.size
      have hM12 := hb12.size
      have os0_12 := own_kept os0_11 hb12
      have og0_12 := own_kept og0_11 hb12
      clear hb12 HB11 os0_11 og0_11
      go_wp2_with fail
      refine (impl_any z0 l0 a1 a2 _ (own_reads oz0_12) hl0 ).mono ?_
      rintro e w13 ⟨h0, rfl, oh0_13, hb13⟩
      have HB13 := below_step HB12 hW12 hb13
      have hW13 := HB13.size
      have hM13 := hb13.size
      have os0_13 := own_kept os0_12 hb13
      have og0_13 := own_kept og0_12 hb13
      have oz0_13 := own_kept oz0_12 hb13
      clear hb13 HB12 os0_12 og0_12 oz0_12
      go_wp2_with fail
      clear oz0_13
      refine (eq_true h0 s0 (dropR l0 a1 a2) _ (own_reads oh0_13) (own_reads os0_13) hR0).mono ?_
      rintro e w14 ⟨rfl, hb14⟩
      have HB14 := below_step HB13 hW13 hb14
      have hW14 := HB14.size
      have hM14 := hb14.size
      have os0_14 := own_kept os0_13 hb14
      have og0_14 := own_kept og0_13 hb14
      have oh0_14 := own_kept oh0_13 hb14
      clear hb14 HB13 os0_13 og0_13 oh0_13
      go_wp2_with fail
      refine (held_own g0 (dropR l0 a1 a2).length _ _ _ og0_14 hR0).mono ?_
      rintro e w15 ⟨rfl, hb15⟩
      have HB15 := below_step HB14 hW14 hb15
      have hW15 := HB15.size
      have hM15 := hb15.size
      have os0_15 := own_kept os0_14 hb15
      have og0_15 := own_kept og0_14 hb15
      have oh0_15 := own_kept oh0_14 hb15
      clear hb15 HB14 os0_14 og0_14 oh0_14
      go_wp2_with fail
      go_ret
      exact ⟨rfl, HB15⟩

set_option maxRecDepth 100000 in
theorem lifted (os : Os) (started : os.Started) (H : Type) (enc : TypeId × Value → H) :
    ReturnsInHanded {} Try.checked os 9 .any (Rows.fnExactListDropSpec.pre6 enc Try.prog Try.f9 Rows.fnExactListDropRow.domain false) (Rows.fnExactListDropSpec.post enc Try.prog Try.f9 false true false false) := by
  refine returnsInHanded_of_change (C := Try.checked) own started (by kernel_rfl) Try.func9
    (ChangeSpec.witness6 (enc := enc) (C := Try.checked) false ⟨#[], #[.slice none 0 0, .int .i64 0, .string ByteArray.empty], []⟩ 8 (by kernel_rfl) (by kernel_rfl) (by kernel_rfl) (by kernel_rfl)) ?_
  intro W base args ds gs before hval0 hW hcnd _
  have hval : ∀ (j : Nat) t v, Try.f9.params[j]? = some t → args[j]? = some v → Value.okWide Try.prog W .any base t v := hval0
  have hW' := hW
  obtain ⟨p, q, hA0, hV, rfl, hfz, hnd⟩ := hW
  have hA : DataW.TrodAll enc Try.prog W 0 (fun _ => true) true Try.f9.params.toList args.toList ds p := hA0
  rw [Try.params9] at hA hval
  obtain ⟨v0, vs0, d0, ds0, p0, q0, hargs, rfl, rfl, h0, r0⟩ := trodAll_cons hA
  obtain ⟨v1, vs1, d1, ds1, p1, q1, rfl, rfl, rfl, h1, r1⟩ := trodAll_cons r0
  obtain ⟨v2, vs2, d2, ds2, p2, q2, rfl, rfl, rfl, h2, r2⟩ := trodAll_cons r1
  obtain ⟨rfl, rfl, rfl⟩ := trodAll_nil r2
  obtain rfl : args = #[v0, v1, v2] := by cases args; simp_all
  obtain ⟨rfl, rfl⟩ := trodVars_none hV
  obtain ⟨a0, len0, cap0, rfl⟩ := okWide_slice Try.underlying22 (hval 0 22 v0 rfl rfl)
  have k0 := h0
  have lt0 : ∀ x ∈ p0, x.block < W.heap.size := by obtain ⟨m, hm⟩ := k0; exact DataW.trod_lt m _ _ _ hm
  obtain ⟨l0, w0⟩ : ∃ l, Reads W (.slice a0 len0 cap0) l ∧ (∀ s ∈ l, s.size ≤ maxLen) ∧ l.length ≤ maxLen := by
    obtain ⟨fuel, hf⟩ := h0
    rcases open_strings Try.underlying22 Try.underlying9 (by kernel_rfl) hf with ⟨hcs, _⟩ | ⟨x, ln, cp, ss, hcs, _, hl, hm, hz, _, hcell, hws⟩
    · exact reads_of_none (by simpa [Value.cells] using hcs)
    · exact reads_of_some (by simpa [Value.cells] using hcs) hl hm (by simpa using hz) hcell hws
  obtain ⟨a1, rfl, rfl, rfl, w1⟩ := open_int Try.underlying3 (hval 1 3 v1 rfl rfl) h1
  obtain ⟨a2, rfl, rfl, rfl, w2⟩ := open_string Try.underlying9 (hval 2 9 v2 rfl rfl) h2
  clear hA0 hval0
  refine (walk (.slice a0 len0 cap0) l0 a1 a2 W w0.1 w0.2.1 w0.2.2 w1 w2).mono fun e W' ⟨he, bel⟩ => ?_
  subst he
  exact ⟨_, rfl, _, _, _, [], _, [], hW', trodAll_mk1 (shut_bool Try.underlying4 _), (trodAll_cons_mk (Below.trod laidOut (by kernel_rfl) (of_decide_eq_true (by kernel_rfl)) k0 bel lt0) (trodAll_cons_mk (shut_int Try.underlying3 w1) (trodAll_cons_mk (shut_string Try.underlying9 w2) trodAll_mk0))), rfl, bel.frame _, fun h => by cases h⟩

theorem over : Rows.fnExactListDropRow.holds Try.pinned (OpenSpec.ofChange Rows.fnExactListDropSpec) :=
  OpenClaim.holds_of_wide 9 Try.f9 rfl rfl rfl rfl rfl rfl rfl ⟨rfl, rfl, rfl, rfl, rfl⟩ rfl rfl rfl rfl rfl (by kernel_rfl) Try.func9 (by kernel_rfl)
    (of_decide_eq_true (by kernel_rfl)) (by unfold Func.isWrapper; first | (rw [if_pos (by decide +kernel)]; kernel_rfl) | (rw [if_neg (by decide +kernel)]; exact ⟨rfl, rfl⟩))
    (fun os started H enc _ => lifted os started H enc)

theorem proved : Rows.FnExactListDropSaid := over
end Go.Proofs.Ytjgnfneondlhhaa.fnExactListDrop
