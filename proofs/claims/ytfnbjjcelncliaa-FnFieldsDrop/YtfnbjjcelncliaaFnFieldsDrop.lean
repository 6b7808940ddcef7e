/- Proved: of drawn fields and a name FieldsDrop and FieldsGet answer as their models; a field that was taken away has no text, all others do; put again it is there as it was. No condition. -/
import Derived.Test.YtfnbjjcelncliaaQxF
import Derived.Test.YtfnbjjcelncliaaPrT
import Derived.Test.YtfnbjjcelncliaaDrH
import Derived.Test.YtfnbjjcelncliaaPrP
import Derived.Test.YtfnbjjcelncliaaPrJ
import Derived.Test.YtfnbjjcelncliaaPrDr
import Derived.ProofKit
import Derived.OpenShut
import Derived.ShutString
import Derived.ChangeOld
import Derived.Below
import Derived.Deep.RegionWith
namespace Go.Proofs.Ytfnbjjcelncliaa.fnFieldsDrop
open Go.ChangeShapes Go.WideShapes Go.ChangeAt Go.RowKit
open Go.ChangeMaps (open_string shut_string)
set_option linter.unusedVariables false

theorem own : ownKnob Try.prog.godebug = none := by kernel_rfl
theorem laidOut : laidOutB Try.prog = true := by kernel_rfl
theorem isLen (w : World) (v : Value) (zs : List Int) (h : IsBytes w v zs) : ∃ ao cap, v = .slice ao zs.length cap ∧ zs.length ≤ 9223372036854775807 := by
  obtain ⟨ao, cap, h1, h2, h3, _⟩ := h
  unfold maxLen at h3; exact ⟨ao, cap, h1, by omega⟩
theorem step {B : Nat} {a w w' : World} (h : Below B a w) (hB : B ≤ a.heap.size) (hb : Below w.heap.size w w') : Below B a w' := h.trans (hb.mono (Nat.le_trans hB h.size))
theorem neB (b : Bool) : (b != b) = false := by cases b <;> rfl
theorem eqB (b : Bool) : (b == b) = true := by cases b <;> rfl
theorem neS (s : ByteArray) : (!s.toList == s.toList) = false := by simp
theorem eqS (s : ByteArray) : (s.toList == s.toList) = true := by simp
theorem ip_any (v : Value) (l : List (ByteArray × ByteArray)) (y : ByteArray × ByteArray) (w : World) (hr : PrReads w v l) (hlen : l.length ≤ 1048576) :
    Calls Try.prog 15 #[v, .agg #[.string y.1, .string y.2]] w fun e w' => ∃ x, e = .returned (.tuple #[x, .bool (prPutF l y), .bool (prPutB l y)]) ∧ PrOwns w' w.heap.size x (prPutR l y) ∧ Below w.heap.size w w' := by
  have := implFieldsPut_any v l y w hr hlen
  rw [pr_ptF, pr_ptB, pr_ptR] at this
  exact this
set_option maxHeartbeats 16000000 in
theorem walk (v0 : Value) (zs : List Int) (w : World) (h : IsBytes w v0 zs) :
    Calls Try.prog 5 #[v0] w fun e w' => e = .returned (.bool true) ∧ Below w.heap.size w w' := by
  obtain ⟨ao, cap, rfl, hlm⟩ := isLen w v0 zs h
  rcases Int.lt_or_le (1048576 : Int) (zs.length : Int) with h0 | h0
  · go_enter Try.func5, Try.ntmps5
    go_wp2_with fail
    go_ret
    exact ⟨rfl, Below.refl _ _⟩
  go_enter Try.func5, Try.ntmps5
  go_wp2_with fail
  refine (drawFDrop_any _ zs _ h).mono ?_
  rintro e w1 ⟨x, O, s, rfl, ho1, hO, _, HB1⟩
  have rO1 := ownsR_reads prC_len ho1
  clear h ho1
  have hDl := pr_drop_len O s (by omega)
  have h1 := neB (prDropB O s)
  have h2 := eqB (prDropB O s)
  have h3 := neS (prGetS O s)
  have h4 := eqS (prGetS O s)
  have h5 := neB (prGetB O s)
  have h6 := eqB (prGetB O s)
  go_wp2_with fail
  refine (implFieldsDrop_any _ O s _ rO1 (by omega)).mono ?_
  rintro e w2 ⟨g, rfl, og2, hb2⟩
  have HB2 := step HB1 (Nat.le_refl _) hb2
  have rO2 := readsR_kept rO1 hb2
  have rg2 := ownsR_reads prC_len og2
  clear hb2 HB1 rO1 og2
  go_wp2_with fail
  refine (specFieldsDrop_any _ O s _ rO2 (by omega)).mono ?_
  rintro e w3 ⟨z, rfl, oz3, hb3⟩
  have HB3 := step HB2 (Nat.le_refl _) hb3
  have rO3 := readsR_kept rO2 hb3
  have rg3 := readsR_kept rg2 hb3
  have rz3 := ownsR_reads prC_len oz3
  clear hb3 HB2 rO2 rg2 oz3
  go_wp2_with fail
  refine (implFieldsGet_any _ O s _ rO3 (by omega)).mono ?_
  rintro e w4 ⟨rfl, hb4⟩
  have HB4 := step HB3 (Nat.le_refl _) hb4
  have rO4 := readsR_kept rO3 hb4
  have rg4 := readsR_kept rg3 hb4
  have rz4 := readsR_kept rz3 hb4
  clear hb4 HB3 rO3 rg3 rz3
  go_wp2_with fail
  refine (specFieldsGet_any _ O s _ rO4 (by omega)).mono ?_
  rintro e w5 ⟨rfl, hb5⟩
  have HB5 := step HB4 (Nat.le_refl _) hb5
  have rO5 := readsR_kept rO4 hb5
  have rg5 := readsR_kept rg4 hb5
  have rz5 := readsR_kept rz4 hb5
  clear hb5 HB4 rO4 rg4 rz4
  go_wp2_with fail
  refine (qxF_true _ _ (prDropR O s) _ rg5 rz5 (by omega)).mono ?_
  rintro e w6 ⟨rfl, hb6⟩
  have HB6 := step HB5 (Nat.le_refl _) hb6
  have rO6 := readsR_kept rO5 hb6
  have rg6 := readsR_kept rg5 hb6
  have rz6 := readsR_kept rz5 hb6
  clear hb6 HB5 rO5 rg5 rz5
  go_wp2_with fail
  refine (specFieldsOk_any _ O _ rO6 (by omega)).mono ?_
  rintro e w7 ⟨rfl, hb7⟩
  have HB7 := step HB6 (Nat.le_refl _) hb7
  have rO7 := readsR_kept rO6 hb7
  have rg7 := readsR_kept rg6 hb7
  have rz7 := readsR_kept rz6 hb7
  clear hb7 HB6 rO6 rg6 rz6
  cases hok : prOkB O with
  | false =>
    clear hok
    go_wp2_with fail
    refine (qxF_true _ _ (prDropR O s) _ rg7 rz7 (by omega)).mono ?_
    rintro e w8 ⟨rfl, hb8⟩
    have HB8 := step HB7 (Nat.le_refl _) hb8
    have rO8 := readsR_kept rO7 hb8
    have rg8 := readsR_kept rg7 hb8
    have rz8 := readsR_kept rz7 hb8
    clear hb8 HB7 rO7 rg7 rz7
    go_wp2_with fail
    go_ret
    exact ⟨rfl, HB8⟩
  | true =>
    cases hd : prDropB O s with
    | false =>
      have hG : prGetB O s = false := hd
      have hM := pr_miss hok hd
      rw [hM] at rg7
      rw [hG]
      clear hok hd hM hG h1 h2 h3 h4 h5 h6
      go_wp2_with fail
      refine (qxF_true _ _ O _ rg7 rO7 (by omega)).mono ?_
      rintro e w8 ⟨rfl, hb8⟩
      have HB8 := step HB7 (Nat.le_refl _) hb8
      have rO8 := readsR_kept rO7 hb8
      have rg8 := readsR_kept rg7 hb8
      have rz8 := readsR_kept rz7 hb8
      clear hb8 HB7 rO7 rg7 rz7
      go_wp2_with fail
      go_ret
      exact ⟨rfl, HB8⟩
    | true =>
      obtain ⟨q1, q2, q3, q4, q5⟩ := pr_again hok hd
      rw [q2]
      clear hok hd h1 h2 h3 h4 h5 h6
      generalize hS : prGetS O s = S at *
      generalize hD : prDropR O s = D at *
      clear hS hD
      go_wp2_with fail
      refine (implFieldsGet_any _ D s _ rg7 (by omega)).mono ?_
      rintro e w8 ⟨he, hb8⟩
      rw [q1] at he
      subst he
      have HB8 := step HB7 (Nat.le_refl _) hb8
      have rO8 := readsR_kept rO7 hb8
      have rg8 := readsR_kept rg7 hb8
      have rz8 := readsR_kept rz7 hb8
      clear hb8 HB7 rO7 rg7 rz7
      go_wp2_with fail
      refine (ip_any _ D (s, S) _ rg8 (by omega)).mono ?_
      rintro e w9 ⟨y, he, oy9, hb9⟩
      rw [q3, q4] at he
      subst he
      rw [q5] at oy9
      have HB9 := step HB8 (Nat.le_refl _) hb9
      have rO9 := readsR_kept rO8 hb9
      have rg9 := readsR_kept rg8 hb9
      have rz9 := readsR_kept rz8 hb9
      have ry9 := ownsR_reads prC_len oy9
      clear hb9 HB8 rO8 rg8 rz8 oy9
      go_wp2_with fail
      refine (qxF_true _ _ O _ ry9 rO9 (by omega)).mono ?_
      rintro e w10 ⟨rfl, hb10⟩
      have HB10 := step HB9 (Nat.le_refl _) hb10
      have rO10 := readsR_kept rO9 hb10
      have rg10 := readsR_kept rg9 hb10
      have rz10 := readsR_kept rz9 hb10
      have ry10 := readsR_kept ry9 hb10
      clear hb10 HB9 rO9 rg9 rz9 ry9
      go_wp2_with fail
      go_ret
      exact ⟨rfl, HB10⟩
set_option maxRecDepth 100000 in
theorem lifted (os : Os) (started : os.Started) (H : Type) (enc : TypeId × Value → H) :
    ReturnsInHanded {} Try.checked os 5 .any (Rows.fnFieldsDropSpec.pre6 enc Try.prog Try.f5 Rows.fnFieldsDropRow.domain false) (Rows.fnFieldsDropSpec.post enc Try.prog Try.f5 false true false false) := by
  refine returnsInHanded_of_change (C := Try.checked) own started (by kernel_rfl) Try.func5
    (ChangeSpec.witness6 (enc := enc) (C := Try.checked) false ⟨#[], #[.slice none 0 0], []⟩ 8 (by kernel_rfl) (by kernel_rfl) (by kernel_rfl) (by kernel_rfl)) ?_
  intro W base args ds gs before hval0 hW hcnd _
  have hval : ∀ (j : Nat) t v, Try.f5.params[j]? = some t → args[j]? = some v → Value.okWide Try.prog W .any base t v := hval0
  have hW' := hW
  obtain ⟨p, q, hA0, hV, rfl, hfz, hnd⟩ := hW
  have hA : DataW.TrodAll enc Try.prog W 0 (fun _ => true) true Try.f5.params.toList args.toList ds p := hA0
  rw [Try.params5] at hA hval
  obtain ⟨v0, vs0, d0, ds0, p0, q0, hargs, rfl, rfl, h0, r0⟩ := trodAll_cons hA
  obtain ⟨rfl, rfl, rfl⟩ := trodAll_nil r0
  obtain rfl : args = #[v0] := by cases args; simp_all
  obtain ⟨rfl, rfl⟩ := trodVars_none hV
  obtain ⟨a0, len0, cap0, rfl⟩ := okWide_slice Try.underlying22 (hval 0 22 v0 rfl rfl)
  have k0 := h0
  have lt0 : ∀ x ∈ p0, x.block < W.heap.size := by obtain ⟨m, hm⟩ := k0; exact DataW.trod_lt m _ _ _ hm
  obtain ⟨z0, w0⟩ : ∃ zs, IsBytes W (.slice a0 len0 cap0) zs := by
    obtain ⟨fuel, hf⟩ := h0
    rcases open_ints Try.underlying22 Try.underlying5 (by kernel_rfl) hf with ⟨hcs, _⟩ | ⟨x, ln, cp, zs, hcs, _, hl, hm, hz, _, hcell, hwz⟩
    · exact bytes_of_none (by simpa [Value.cells] using hcs)
    · exact bytes_of_some (by simpa [Value.cells] using hcs) hl hm (by simpa using hz) hcell hwz
  clear hA0 hval0
  refine (walk (.slice a0 len0 cap0) z0 W w0).mono fun e W' ⟨he, bel⟩ => ?_
  subst he
  exact ⟨_, rfl, _, _, _, [], _, [], hW', trodAll_mk1 (shut_bool Try.underlying4 _), (trodAll_cons_mk (Below.trod laidOut (by kernel_rfl) (of_decide_eq_true (by kernel_rfl)) k0 bel lt0) trodAll_mk0), rfl, bel.frame _, fun h => by cases h⟩

theorem over : Rows.fnFieldsDropRow.holds Try.pinned (OpenSpec.ofChange Rows.fnFieldsDropSpec) :=
  OpenClaim.holds_of_wide 5 Try.f5 rfl rfl rfl rfl rfl rfl rfl ⟨rfl, rfl, rfl, rfl, rfl⟩ rfl rfl rfl rfl rfl (by kernel_rfl) Try.func5 (by kernel_rfl)
    (of_decide_eq_true (by kernel_rfl)) (by unfold Func.isWrapper; first | (rw [if_pos (by decide +kernel)]; kernel_rfl) | (rw [if_neg (by decide +kernel)]; exact ⟨rfl, rfl⟩))
    (fun os started H enc _ => lifted os started H enc)

theorem proved : Rows.FnFieldsDropSaid := over
end Go.Proofs.Ytfnbjjcelncliaa.fnFieldsDrop
