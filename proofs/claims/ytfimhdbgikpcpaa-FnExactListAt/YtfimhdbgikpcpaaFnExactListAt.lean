/- Proved: at every list and text ListAt answers as its model, and writes into no argument. No condition. -/
import Derived.Test.YtfimhdbgikpcpaaAtI
import Derived.ProofKit
import Derived.OpenShut
import Derived.ShutString
import Derived.ChangeOld
import Derived.Below
namespace Go.Proofs.Ytfimhdbgikpcpaa.fnExactListAt
open Go.ChangeShapes Go.WideShapes Go.ChangeAt Go.RowKit
open Go.ChangeMaps (open_string shut_string)
set_option linter.unusedVariables false

theorem own : ownKnob Try.prog.godebug = none := by kernel_rfl
theorem laidOut : laidOutB Try.prog = true := by kernel_rfl

set_option maxHeartbeats 1000000 in
theorem walk (v : Value) (l : List ByteArray) (t : ByteArray) (w : World) (hr : Reads w v l) (hs : ∀ s ∈ l, s.size ≤ maxLen) (hlen : l.length ≤ maxLen) (wt : t.size ≤ maxLen) :
    Calls Try.prog 5 #[v, .string t] w fun e w' => e = .returned (.bool true) ∧ Below w.heap.size w w' := by
  have wg := wt
  unfold maxLen at wg
  rcases Int.lt_or_le (1048576 : Int) (t.size : Int) with hx | hx
  · go_enter Try.func5, Try.ntmps5
    go_wp2_with fail
    go_ret
    exact ⟨rfl, Below.refl _ _⟩
  cases hz : decide (sz l 1048576 < 0) with
  | true =>
    have hz' : sz l 1048576 < 0 := by simpa using hz
    clear hz
    go_enter Try.func5, Try.ntmps5
    go_wp2_with (go_at_call 6; refine (sz_any _ l _ _ hr (by omega) (by omega) hs hlen).mono ?_; rintro e w' ⟨rfl, rfl⟩)
    go_ret
    exact ⟨rfl, Below.refl _ _⟩
  | false =>
    have hz' : 0 ≤ sz l 1048576 := by simpa using hz
    clear hz
    have hl := (sz_len hz').1
    have hl' : l.length ≤ 1048576 := by omega
    go_enter Try.func5, Try.ntmps5
    go_wp2_with (go_at_call 6; refine (sz_any _ l _ _ hr (by omega) (by omega) hs hlen).mono ?_; rintro e w' ⟨rfl, rfl⟩)
    refine (to_any v l _ hr hl').mono ?_
    rintro e w1 ⟨v1, rfl, ho1, hb1⟩
    have hr1 := reads_kept hr hb1
    go_wp2_with fail
    refine (specAt_any v1 l t _ (owns_reads ho1) hl').mono ?_
    rintro e w2 ⟨rfl, rfl⟩
    clear ho1
    go_wp2_with fail
    refine (to_any v l _ hr1 hl').mono ?_
    rintro e w3 ⟨v3, rfl, ho3, hb3⟩
    have hr3 := reads_kept hr1 hb3
    have HB3 := hb1.trans (hb3.mono hb1.size)
    clear hb3 hr1 hb1
    go_wp2_with fail
    refine (implAt_any v3 l t _ (owns_reads ho3) hl').mono ?_
    rintro e w4 ⟨rfl, rfl⟩
    have hne : (atR l t != atR l t) = false := by simp
    go_wp2_with fail
    refine (to_any v l _ hr3 hl').mono ?_
    rintro e w5 ⟨v5, rfl, ho5, hb5⟩
    have ho6 := owns_kept ho3 hb5
    have HB5 := HB3.trans (hb5.mono HB3.size)
    clear hb5 HB3 hr3 ho3
    go_wp2_with fail
    refine (eq_any v3 v5 l l _ (owns_reads ho6) (owns_reads ho5) hl' hl').mono ?_
    rintro e w6 ⟨rfl, hb6⟩
    have HB6 := HB5.trans (hb6.mono HB5.size)
    clear hb6 HB5 ho5 ho6
    have ht : decide (l = l) = true := by simp
    go_wp2_with fail
    go_ret
    exact ⟨rfl, HB6⟩

set_option maxRecDepth 100000 in
theorem lifted (os : Os) (started : os.Started) (H : Type) (enc : TypeId × Value → H) :
    ReturnsInHanded {} Try.checked os 5 .any (Rows.fnExactListAtSpec.pre6 enc Try.prog Try.f5 Rows.fnExactListAtRow.domain false) (Rows.fnExactListAtSpec.post enc Try.prog Try.f5 false true false false) := by
  refine returnsInHanded_of_change (C := Try.checked) own started (by kernel_rfl) Try.func5
    (ChangeSpec.witness6 (enc := enc) (C := Try.checked) false ⟨#[], #[.slice none 0 0, .string ByteArray.empty], []⟩ 8 (by kernel_rfl) (by kernel_rfl) (by kernel_rfl) (by kernel_rfl)) ?_
  intro W base args ds gs before hval0 hW hcnd _
  have hval : ∀ (j : Nat) t v, Try.f5.params[j]? = some t → args[j]? = some v → Value.okWide Try.prog W .any base t v := hval0
  have hW' := hW
  obtain ⟨p, q, hA0, hV, rfl, hfz, hnd⟩ := hW
  have hA : DataW.TrodAll enc Try.prog W 0 (fun _ => true) true Try.f5.params.toList args.toList ds p := hA0
  rw [Try.params5] at hA hval
  obtain ⟨v0, vs0, d0, ds0, p0, q0, hargs, rfl, rfl, h0, r0⟩ := trodAll_cons hA
  obtain ⟨v1, vs1, d1, ds1, p1, q1, rfl, rfl, rfl, h1, r1⟩ := trodAll_cons r0
  obtain ⟨rfl, rfl, rfl⟩ := trodAll_nil r1
  obtain rfl : args = #[v0, v1] := by cases args; simp_all
  obtain ⟨rfl, rfl⟩ := trodVars_none hV
  obtain ⟨a0, len0, cap0, rfl⟩ := okWide_slice Try.underlying22 (hval 0 22 v0 rfl rfl)
  have k0 := h0
  have lt0 : ∀ x ∈ p0, x.block < W.heap.size := by obtain ⟨m, hm⟩ := k0; exact DataW.trod_lt m _ _ _ hm
  obtain ⟨l0, w0⟩ : ∃ l, Reads W (.slice a0 len0 cap0) l ∧ (∀ s ∈ l, s.size ≤ maxLen) ∧ l.length ≤ maxLen := by
    obtain ⟨fuel, hf⟩ := h0
    rcases open_strings Try.underlying22 Try.underlying9 (by kernel_rfl) hf with ⟨hcs, _⟩ | ⟨x, ln, cp, ss, hcs, _, hl, hm, hz, _, hcell, hws⟩
    · exact reads_of_none (by simpa [Value.cells] using hcs)
    · exact reads_of_some (by simpa [Value.cells] using hcs) hl hm (by simpa using hz) hcell hws
  obtain ⟨a1, rfl, rfl, rfl, w1⟩ := open_string Try.underlying9 (hval 1 9 v1 rfl rfl) h1
  clear hA0 hval0
  refine (walk (.slice a0 len0 cap0) l0 a1 W w0.1 w0.2.1 w0.2.2 w1).mono fun e W' ⟨he, bel⟩ => ?_
  subst he
  exact ⟨_, rfl, _, _, _, [], _, [], hW', trodAll_mk1 (shut_bool Try.underlying4 _), (trodAll_cons_mk (Below.trod laidOut (by kernel_rfl) (of_decide_eq_true (by kernel_rfl)) k0 bel lt0) (trodAll_cons_mk (shut_string Try.underlying9 w1) trodAll_mk0)), rfl, bel.frame _, fun h => by cases h⟩

theorem over : Rows.fnExactListAtRow.holds Try.pinned (OpenSpec.ofChange Rows.fnExactListAtSpec) :=
  OpenClaim.holds_of_wide 5 Try.f5 rfl rfl rfl rfl rfl rfl rfl ⟨rfl, rfl, rfl, rfl, rfl⟩ rfl rfl rfl rfl rfl (by kernel_rfl) Try.func5 (by kernel_rfl)
    (of_decide_eq_true (by kernel_rfl)) (by unfold Func.isWrapper; first | (rw [if_pos (by decide +kernel)]; kernel_rfl) | (rw [if_neg (by decide +kernel)]; exact ⟨rfl, rfl⟩))
    (fun os started H enc _ => lifted os started H enc)

theorem proved : Rows.FnExactListAtSaid := over
end Go.Proofs.Ytfimhdbgikpcpaa.fnExactListAt
