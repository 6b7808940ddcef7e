/- Proved: at every text and place TextBitGet answers as its model. No condition. -/
import Derived.Test.YtpkbddpmbaleiaaWdD
import Derived.ProofKit
import Derived.OpenShut
import Derived.ShutString
import Derived.ChangeOld
import Derived.Below
namespace Go.Proofs.Ytpkbddpmbaleiaa.fnExactTextBitGet
open Go.ChangeShapes Go.WideShapes Go.ChangeAt Go.RowKit
open Go.ChangeMaps (open_string shut_string)
open wd
set_option linter.unusedVariables false

theorem own : ownKnob Try.prog.godebug = none := by kernel_rfl
theorem laidOut : laidOutB Try.prog = true := by kernel_rfl

theorem l1In_any (n a b : Int) (w : World) : Calls Try.prog 21 #[.int .i64 n, .int .i64 a, .int .i64 b] w fun e w' => e = .returned (.bool (decide (a ≤ n) && decide (n ≤ b))) ∧ w = w' := by
  by_cases h1 : a ≤ n
  · have HD : Hid (decide (a ≤ n) = true) := decide_eq_true h1
    go_enter Try.func21, Try.ntmps21
    go_wp2_with fail
    go_ret
    exact ⟨wret_b (by rw [HD.out, Bool.true_and]), rfl⟩
  · have HD : Hid (decide (a ≤ n) = false) := decide_eq_false h1
    go_enter Try.func21, Try.ntmps21
    go_wp2_with fail
    go_ret
    exact ⟨wret_b (by rw [HD.out, Bool.false_and]), rfl⟩
theorem l8Bit_any (s : ByteArray) (a : Int) (w : World) : Calls Try.prog 12 #[.string s, .int .i64 a] w fun e w' => e = .returned (.bool (placeB s a)) ∧ w = w' := by
  by_cases h1 : (s.size : Int) ≤ 40
  · have HP : Hid (placeB s a = (decide (0 ≤ a) && decide (a ≤ 319))) := by
      show _ = _; unfold placeB; rw [decide_eq_true h1, Bool.true_and]
      congr 1
      exact decide_eq_decide.2 (by omega)
    go_enter Try.func12, Try.ntmps12
    go_wp2_with (go_at_call 21; refine (l1In_any _ _ _ _).mono ?_; rintro e w' ⟨rfl, rfl⟩)
    go_ret
    exact ⟨wret_b HP.out.symm, rfl⟩
  · have HP : Hid (placeB s a = false) := by show _ = _; unfold placeB; rw [decide_eq_false h1, Bool.false_and, Bool.false_and]
    go_enter Try.func12, Try.ntmps12
    go_wp2_with fail
    go_ret
    exact ⟨wret_b HP.out.symm, rfl⟩
theorem specBitGet_any (s : ByteArray) (a : Int) (w : World) : Calls Try.prog 6 #[.string s, .int .i64 a] w fun e w' => e = .returned (.int .i64 (getV s a)) ∧ w = w' := by
  cases hp : placeB s a with
  | false =>
    have HV : Hid (getV s a = 0) := by show _ = _; unfold getV; rw [hp]; rfl
    go_enter Try.func6, Try.ntmps6
    go_wp2_with (go_at_call 12; refine (l8Bit_any _ _ _).mono ?_; rw [hp]; rintro e w' ⟨rfl, rfl⟩)
    go_ret
    exact ⟨wret_i HV.out.symm, rfl⟩
  | true =>
    have HV : Hid (getV s a = (bit s a.toNat : Int)) := by show _ = _; unfold getV; rw [if_pos hp]
    obtain ⟨h0, h3⟩ : 0 ≤ a ∧ a < 320 := by
      unfold placeB at hp
      simp only [Bool.and_eq_true, decide_eq_true_eq] at hp
      omega
    obtain ⟨k, rfl⟩ := Int.eq_ofNat_of_zero_le h0
    have hk : k ≤ 1000000000 := by omega
    clear h0 h3
    go_enter Try.func6, Try.ntmps6
    go_wp2_with (first | (go_at_call 12; refine (l8Bit_any _ _ _).mono ?_; rw [hp]; rintro e w' ⟨rfl, rfl⟩) | (go_at_call 13; refine (l8Get_any _ _ _ hk).mono ?_; rintro e w' ⟨rfl, rfl⟩))
    go_ret
    exact ⟨wret_i HV.out.symm, rfl⟩

set_option maxHeartbeats 4000000 in
theorem walk (s : ByteArray) (a : Int) (w : World) (w0 : s.size ≤ maxLen) (w1 : (Lit.int .i64 a).wf = true) :
    Calls Try.prog 3 #[.string s, .int .i64 a] w fun e w' => e = .returned (.bool true) ∧ Below w.heap.size w w' := by
  have wg := w0
  unfold maxLen at wg
  clear w0 w1
  rcases Int.lt_or_le (1048576 : Int) (s.size : Int) with hx | hx
  · go_enter Try.func3, Try.ntmps3
    go_wp2_with fail
    go_ret
    exact ⟨rfl, Below.refl _ _⟩
  · have HB0 := Below.refl w.heap.size w
    generalize hv : getV s a = v
    have hs : ∀ W, Calls Try.prog 6 #[.string s, .int .i64 a] W fun e w' => e = .returned (.int .i64 v) ∧ W = w' := fun W => by rw [← hv]; exact specBitGet_any s a W
    have hi : ∀ W, Calls Try.prog 7 #[.string s, .int .i64 a] W fun e w' => e = .returned (.int .i64 v) ∧ Below W.heap.size W w' := fun W => by rw [← hv]; exact implBitGet_any s a W
    have HS : Hid _ := hs
    have HI : Hid _ := hi
    clear hv hs hi
    go_enter Try.func3, Try.ntmps3
    go_wp2_with fail
    refine (HS.out _).mono ?_
    rintro e w' ⟨rfl, rfl⟩
    go_wp2_with fail
    refine (HI.out _).mono ?_
    rintro e w2 ⟨rfl, hb⟩
    go_wp2_with fail
    go_ret
    exact ⟨rfl, hb⟩

set_option maxRecDepth 100000 in
theorem lifted (os : Os) (started : os.Started) (H : Type) (enc : TypeId × Value → H) :
    ReturnsInHanded {} Try.checked os 3 .any (Rows.fnExactTextBitGetSpec.pre6 enc Try.prog Try.f3 Rows.fnExactTextBitGetRow.domain false) (Rows.fnExactTextBitGetSpec.post enc Try.prog Try.f3 false true false false) := by
  refine returnsInHanded_of_change (C := Try.checked) own started (by kernel_rfl) Try.func3
    (ChangeSpec.witness6 (enc := enc) (C := Try.checked) false ⟨#[], #[.string ByteArray.empty, .int .i64 0], []⟩ 8 (by kernel_rfl) (by kernel_rfl) (by kernel_rfl) (by kernel_rfl)) ?_
  intro W base args ds gs before hval0 hW hcnd _
  have hval : ∀ (j : Nat) t v, Try.f3.params[j]? = some t → args[j]? = some v → Value.okWide Try.prog W .any base t v := hval0
  have hW' := hW
  obtain ⟨p, q, hA0, hV, rfl, hfz, hnd⟩ := hW
  have hA : DataW.TrodAll enc Try.prog W 0 (fun _ => true) true Try.f3.params.toList args.toList ds p := hA0
  rw [Try.params3] at hA hval
  obtain ⟨v0, vs0, d0, ds0, p0, q0, hargs, rfl, rfl, h0, r0⟩ := trodAll_cons hA
  obtain ⟨v1, vs1, d1, ds1, p1, q1, rfl, rfl, rfl, h1, r1⟩ := trodAll_cons r0
  obtain ⟨rfl, rfl, rfl⟩ := trodAll_nil r1
  obtain rfl : args = #[v0, v1] := by cases args; simp_all
  obtain ⟨rfl, rfl⟩ := trodVars_none hV
  obtain ⟨a0, rfl, rfl, rfl, w0⟩ := open_string Try.underlying9 (hval 0 9 v0 rfl rfl) h0
  obtain ⟨a1, rfl, rfl, rfl, w1⟩ := open_int Try.underlying3 (hval 1 3 v1 rfl rfl) h1
  clear hA0 hval0
  refine (walk a0 a1 W w0 w1).mono fun e W' ⟨he, bel⟩ => ?_
  subst he
  exact ⟨_, rfl, _, _, _, [], _, [], hW', trodAll_mk1 (shut_bool Try.underlying4 _), (trodAll_cons_mk (shut_string Try.underlying9 w0) (trodAll_cons_mk (shut_int Try.underlying3 w1) trodAll_mk0)), rfl, bel.frame _, fun h => by cases h⟩

theorem over : Rows.fnExactTextBitGetRow.holds Try.pinned (OpenSpec.ofChange Rows.fnExactTextBitGetSpec) :=
  OpenClaim.holds_of_wide 3 Try.f3 rfl rfl rfl rfl rfl rfl rfl ⟨rfl, rfl, rfl, rfl, rfl⟩ rfl rfl rfl rfl rfl (by kernel_rfl) Try.func3 (by kernel_rfl)
    (of_decide_eq_true (by kernel_rfl)) (by unfold Func.isWrapper; first | (rw [if_pos (by decide +kernel)]; kernel_rfl) | (rw [if_neg (by decide +kernel)]; exact ⟨rfl, rfl⟩))
    (fun os started H enc _ => lifted os started H enc)

theorem proved : Rows.FnExactTextBitGetSaid := over
end Go.Proofs.Ytpkbddpmbaleiaa.fnExactTextBitGet
