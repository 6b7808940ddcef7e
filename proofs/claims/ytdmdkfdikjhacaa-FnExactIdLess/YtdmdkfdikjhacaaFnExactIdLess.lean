/- Proved: at every two ids IdLess answers as its model. No condition. -/
import Derived.Test.YtdmdkfdikjhacaaIdL
import Derived.ProofKit
import Derived.OpenShut
import Derived.ChangeOld
import Derived.Below
namespace Go.Proofs.Ytdmdkfdikjhacaa.fnExactIdLess
open Go.ChangeShapes Go.WideShapes Go.ChangeAt Go.RowKit
open Go.ChangeMaps (open_string shut_string)
set_option linter.unusedVariables false

theorem own : ownKnob Try.prog.godebug = none := by kernel_rfl
theorem laidOut : laidOutB Try.prog = true := by kernel_rfl

set_option maxHeartbeats 4000000 in
theorem walk (x0 x1 : Int × Int) (w : World) (h0 : idFit x0) (h1 : idFit x1) :
    Calls Try.prog 3 #[.agg #[.int .i64 x0.1, .int .i64 x0.2], .agg #[.int .i64 x1.1, .int .i64 x1.2]] w fun e w' => e = .returned (.bool true) ∧ Below w.heap.size w w' := by
  have HB0 := Below.refl w.heap.size w
  have HK := two_boxes w (.int .i64 x0.1) (.int .i64 x0.2) (.int .i64 x1.1) (.int .i64 x1.2) 23 23
  have hB2 : Below w.heap.size w ((w.alloc (.cells #[.int .i64 x0.1, .int .i64 x0.2] 23)).alloc (.cells #[.int .i64 x1.1, .int .i64 x1.2] 23)) := ((Below.refl _ w).alloc (Nat.le_refl _) _).alloc (by simp) _
  go_enter Try.func3, Try.ntmps3
  go_wp2_with fail
  obtain ⟨w2, hW⟩ : ∃ W, (w.alloc (.cells #[.int .i64 x0.1, .int .i64 x0.2] 23)).alloc (.cells #[.int .i64 x1.1, .int .i64 x1.2] 23) = W := ⟨_, rfl⟩
  rw [hW] at HK hB2 ⊢
  have HK : Hid _ := HK
  clear hW
  go_region_held3 (fun w' => w'.cell? ⟨w.heap.size, 0, none⟩ = some (.int .i64 x0.1) ∧ w'.cell? ⟨w.heap.size, 1, none⟩ = some (.int .i64 x0.2) ∧ w'.cell? ⟨w.heap.size + 1, 0, none⟩ = some (.int .i64 x1.1) ∧ w'.cell? ⟨w.heap.size + 1, 1, none⟩ = some (.int .i64 x1.2) ∧ Below w2.heap.size w2 w') (first | exact HK.out _ (Below.refl _ _).drew | assumption | go_keep) (first
    | (go_at_call 6; refine (toId_ints _ _ _).mono ?_; rintro e w' ⟨rfl, hb⟩; have hk3 := HK.out _ (idHeld hb ‹_›); clear hb)
    | (go_at_call 5; refine (specIdLess_ints _ _ _ _ _).mono ?_; rintro e w' ⟨rfl, hb⟩; have hk3 := HK.out _ (idHeld hb ‹_›); clear hb))
  have hq := hk3
  clear hk3
  go_wp2_with fail
  go_region_held3 (fun w' => w'.cell? ⟨w.heap.size, 0, none⟩ = some (.int .i64 x0.1) ∧ w'.cell? ⟨w.heap.size, 1, none⟩ = some (.int .i64 x0.2) ∧ w'.cell? ⟨w.heap.size + 1, 0, none⟩ = some (.int .i64 x1.1) ∧ w'.cell? ⟨w.heap.size + 1, 1, none⟩ = some (.int .i64 x1.2) ∧ Below w2.heap.size w2 w') (first | exact HK.out _ hq.2.2.2.2.drew | assumption | go_keep) (first
    | (go_at_call 6; refine (toId_ints _ _ _).mono ?_; rintro e w' ⟨rfl, hb⟩; have hk3 := HK.out _ (idHeld hb ‹_›); clear hb)
    | (go_at_call 7; refine (implIdLess_ints _ _ _ _ _).mono ?_; rintro e w' ⟨rfl, hb⟩; have hk3 := HK.out _ (idHeld hb ‹_›); clear hb))
  have hne : (idLessB x0 x1 != idLessB x0 x1) = false := by simp
  go_wp2_with fail
  go_ret
  exact ⟨rfl, hB2.trans (hk3.2.2.2.2.mono hB2.size)⟩

set_option maxRecDepth 100000 in
theorem lifted (os : Os) (started : os.Started) (H : Type) (enc : TypeId × Value → H) :
    ReturnsInHanded {} Try.checked os 3 .any (Rows.fnExactIdLessSpec.pre6 enc Try.prog Try.f3 Rows.fnExactIdLessRow.domain false) (Rows.fnExactIdLessSpec.post enc Try.prog Try.f3 false true false false) := by
  refine returnsInHanded_of_change (C := Try.checked) own started (by kernel_rfl) Try.func3
    (ChangeSpec.witness6 (enc := enc) (C := Try.checked) false ⟨#[], #[.agg #[.int .i64 0, .int .i64 0], .agg #[.int .i64 0, .int .i64 0]], []⟩ 8 (by kernel_rfl) (by kernel_rfl) (by kernel_rfl) (by kernel_rfl)) ?_
  intro W base args ds gs before hval0 hW hcnd _
  have hval : ∀ (j : Nat) t v, Try.f3.params[j]? = some t → args[j]? = some v → Value.okWide Try.prog W .any base t v := hval0
  have hW' := hW
  obtain ⟨p, q, hA0, hV, rfl, hfz, hnd⟩ := hW
  have hA : DataW.TrodAll enc Try.prog W 0 (fun _ => true) true Try.f3.params.toList args.toList ds p := hA0
  rw [Try.params3] at hA hval
  obtain ⟨v0, vs0, d0, ds0, p0, q0, hargs, rfl, rfl, h0, r0⟩ := trodAll_cons hA
  obtain ⟨v1, vs1, d1, ds1, p1, q1, rfl, rfl, rfl, h1, r1⟩ := trodAll_cons r0
  obtain ⟨rfl, rfl, rfl⟩ := trodAll_nil r1
  obtain rfl : args = #[v0, v1] := by cases args; simp_all
  obtain ⟨rfl, rfl⟩ := trodVars_none hV
  have k0 := h0
  have lt0 : ∀ x ∈ p0, x.block < W.heap.size := by obtain ⟨m, hm⟩ := k0; exact DataW.trod_lt m _ _ _ hm
  obtain ⟨x0, rfl, w0⟩ := id_open1 (hval 0 23 v0 rfl rfl) h0
  have k1 := h1
  have lt1 : ∀ x ∈ p1, x.block < W.heap.size := by obtain ⟨m, hm⟩ := k1; exact DataW.trod_lt m _ _ _ hm
  obtain ⟨x1, rfl, w1⟩ := id_open1 (hval 1 23 v1 rfl rfl) h1
  clear hA0 hval0
  refine (walk x0 x1 W w0 w1).mono fun e W' ⟨he, bel⟩ => ?_
  subst he
  exact ⟨_, rfl, _, _, _, [], _, [], hW', trodAll_mk1 (shut_bool Try.underlying4 _), (trodAll_cons_mk (Below.trod laidOut (by kernel_rfl) (of_decide_eq_true (by kernel_rfl)) k0 bel lt0) (trodAll_cons_mk (Below.trod laidOut (by kernel_rfl) (of_decide_eq_true (by kernel_rfl)) k1 bel lt1) trodAll_mk0)), rfl, bel.frame _, fun h => by cases h⟩

theorem over : Rows.fnExactIdLessRow.holds Try.pinned (OpenSpec.ofChange Rows.fnExactIdLessSpec) :=
  OpenClaim.holds_of_wide 3 Try.f3 rfl rfl rfl rfl rfl rfl rfl ⟨rfl, rfl, rfl, rfl, rfl⟩ rfl rfl rfl rfl rfl (by kernel_rfl) Try.func3 (by kernel_rfl)
    (of_decide_eq_true (by kernel_rfl)) (by unfold Func.isWrapper; first | (rw [if_pos (by decide +kernel)]; kernel_rfl) | (rw [if_neg (by decide +kernel)]; exact ⟨rfl, rfl⟩))
    (fun os started H enc _ => lifted os started H enc)

theorem proved : Rows.FnExactIdLessSaid := over
end Go.Proofs.Ytdmdkfdikjhacaa.fnExactIdLess
