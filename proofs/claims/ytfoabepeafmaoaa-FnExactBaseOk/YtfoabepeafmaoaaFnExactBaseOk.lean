/- Proved: at every base BaseOk answers as its model, and writes into no argument. No condition. -/
import Derived.Test.YtfoabepeafmaoaaEnN
import Derived.Test.YtfoabepeafmaoaaEnO
import Derived.ProofKit
import Derived.OpenShut
import Derived.ShutString
import Derived.ChangeOld
import Derived.Below
import Derived.Deep.RegionWith
namespace Go.Proofs.Ytfoabepeafmaoaa.fnExactBaseOk
open Go.ChangeShapes Go.WideShapes Go.ChangeAt Go.RowKit
open Go.ChangeMaps (open_string shut_string)
set_option linter.unusedVariables false

theorem own : ownKnob Try.prog.godebug = none := by kernel_rfl
theorem laidOut : laidOutB Try.prog = true := by kernel_rfl
theorem row2 {w w' : World} {B b : Nat} {cs : Array Value} {t : TypeId} (h : w.heap[B]? = some (.cells cs t (0, 0))) (hb : Below b w w') (hlt : B < b) : w'.heap[B]? = some (.cells cs t (0, 0)) := (hb.block B hlt).trans h

set_option maxHeartbeats 8000000 in
set_option maxRecDepth 100000 in
theorem walk (n : Int) (v : Value) (l : List Row) (w : World) (hr : EsReads w v l) (hf : ∀ x ∈ l, EnFit x.e) (hlen : l.length ≤ maxLen) (wf : (Lit.int .i64 n).wf = true) :
    Calls Try.prog 4 #[bsV n v] w fun x w' => x = .returned (.bool true) ∧ Below w.heap.size w w' := by
  obtain ⟨ao, cap, rfl⟩ := readsR_shape hr.rows
  have hn : -9223372036854775808 ≤ n ∧ n ≤ 9223372036854775807 := by simpa [Lit.wf, IntKind.min, IntKind.max, IntKind.signed, IntKind.bits] using wf
  have HN : Hid _ := hn
  clear hn wf
  have hB0 : Below w.heap.size w (w.alloc (.cells #[.int .i64 n, .slice ao l.length cap] 38)) := (Below.refl _ w).alloc (Nat.le_refl _) _
  go_enter Try.func4, Try.ntmps4
  go_wp2_with fail
  refine (szBase_any n _ l _ _ (esReads_kept hr hB0) hf hlen (by omega) (by omega)).mono ?_
  rintro x w1 ⟨⟨m, rfl, hm⟩, hb1⟩
  have hB1 := hB0.trans (hb1.mono hB0.size)
  have q1 : Hid _ := (hb1.block w.heap.size (by simp)).trans (heap_alloc_new _ _)
  have hz : w.heap.size < w1.heap.size := Nat.lt_of_lt_of_le (by simp) hb1.size
  clear hb1 hB0 hf
  rcases hm with hm | ⟨hm, _, hs⟩
  · go_wp2_with fail
    go_ret
    exact ⟨rfl, hB1⟩
  have c0 : w1.cell? ⟨w.heap.size, 0, none⟩ = some (.int .i64 n) := by rw [cell_of_row _ _ _ _ _ _ q1.out]; rfl
  have c1 : w1.cell? ⟨w.heap.size, 1, none⟩ = some (.slice ao l.length cap) := by rw [cell_of_row _ _ _ _ _ _ q1.out]; rfl
  go_wp2_with fail
  refine (toBase_any n _ l _ (esReads_kept hr hB1) hs).mono ?_
  rintro x w2 ⟨⟨u2, xs, rfl, hmx, ho⟩, hb2⟩
  have hr2 := esFor_reads ho
  have hsx := small_map hmx hs
  have hB2 := hB1.trans (hb2.mono hB1.size)
  have q2 : Hid _ := row2 q1.out hb2 hz
  have hz2 : w.heap.size < w2.heap.size := Nat.lt_of_lt_of_le hz hb2.size
  clear hb2 hB1 c0 c1 q1 ho
  go_wp2_with fail
  refine (specBaseOk_any n _ xs _ hr2 hsx HN.out).mono ?_
  rintro x w3 ⟨he, hb3⟩
  rw [hmx] at he
  subst he
  have hB3 := hB2.trans (hb3.mono hB2.size)
  have q3 : Hid _ := row2 q2.out hb3 hz2
  have hz3 : w.heap.size < w3.heap.size := Nat.lt_of_lt_of_le hz2 hb3.size
  clear hb3 hB2 q2 hr2 hmx hsx
  have c0 : w3.cell? ⟨w.heap.size, 0, none⟩ = some (.int .i64 n) := by rw [cell_of_row _ _ _ _ _ _ q3.out]; rfl
  have c1 : w3.cell? ⟨w.heap.size, 1, none⟩ = some (.slice ao l.length cap) := by rw [cell_of_row _ _ _ _ _ _ q3.out]; rfl
  go_wp2_with fail
  refine (toBase_any n _ l _ (esReads_kept hr hB3) hs).mono ?_
  rintro x w4 ⟨⟨u4, ys, rfl, hmy, ho⟩, hb4⟩
  have hr4 := esFor_reads ho
  have hsy := small_map hmy hs
  obtain ⟨bo, cb, rfl⟩ := readsR_shape hr4.rows
  have hB4 := hB3.trans (hb4.mono hB3.size)
  have q4 : Hid _ := row2 q3.out hb4 hz3
  have hz4 : w.heap.size < w4.heap.size := Nat.lt_of_lt_of_le hz3 hb4.size
  have HMY : Hid (ys.map Row.e = l.map Row.e) := hmy
  clear hb4 hB3 c0 c1 q3 ho hmy
  go_wp2_with fail
  have hA4 : Below w4.heap.size w4 (w4.alloc (.cells #[.int .i64 n, .slice bo ys.length cb] 43)) := (Below.refl _ w4).alloc (Nat.le_refl _) _
  refine (implBaseOk_any n _ ys _ (esReads_kept hr4 hA4) hsy).mono ?_
  rintro x w5 ⟨he, hb5⟩
  rw [HMY.out] at he
  subst he
  have hA5 := hA4.trans (hb5.mono hA4.size)
  have hB5 := hB4.trans (hA5.mono hB4.size)
  have p5 : Hid _ := (hb5.block w4.heap.size (by simp)).trans (heap_alloc_new _ _)
  have hz5 : w4.heap.size < w5.heap.size := Nat.lt_of_lt_of_le (by simp) hb5.size
  have q5 : Hid _ := row2 q4.out hA5 hz4
  have hr5 := esReads_kept hr4 hA5
  have hn5 : (bsOkB n (l.map Row.e) != bsOkB n (l.map Row.e)) = false := by simp
  have HQ : Hid (∀ w', Below w5.heap.size w5 w' → w'.heap[w.heap.size]? = some (.cells #[.int .i64 n, .slice ao l.length cap] 38 (0, 0)) ∧ w'.heap[w4.heap.size]? = some (.cells #[.int .i64 n, .slice bo ys.length cb] 43 (0, 0))) := fun w' h => ⟨row2 q5.out h (by omega), row2 p5.out h hz5⟩
  have HS : Hid (∀ w', Below w5.heap.size w5 w' → Below w5.heap.size w5 w' ∧ w'.cell? ⟨w.heap.size, 0, none⟩ = some (.int .i64 n) ∧ w'.cell? ⟨w.heap.size, 1, none⟩ = some (.slice ao l.length cap) ∧ w'.cell? ⟨w4.heap.size, 0, none⟩ = some (.int .i64 n) ∧ w'.cell? ⟨w4.heap.size, 1, none⟩ = some (.slice bo ys.length cb)) := fun w' h =>
    ⟨h, by rw [cell_of_row _ _ _ _ _ _ (HQ.out w' h).1]; rfl, by rw [cell_of_row _ _ _ _ _ _ (HQ.out w' h).1]; rfl, by rw [cell_of_row _ _ _ _ _ _ (HQ.out w' h).2]; rfl, by rw [cell_of_row _ _ _ _ _ _ (HQ.out w' h).2]; rfl⟩
  have HR : Hid (∀ w', Below w5.heap.size w5 w' → EsReads w' (.slice ao l.length cap) l ∧ EsReads w' (.slice bo ys.length cb) ys) := fun w' h => ⟨esReads_kept (esReads_kept hr hB5) h, esReads_kept hr5 h⟩
  clear hb5 hA4 hA5 hB4 q4 p5 q5 hr5 hr4 hr HQ
  go_wp2_with fail
  refine wp_region_held_drew (S := (fun w' => Below w5.heap.size w5 w' ∧ w'.cell? ⟨w.heap.size, 0, none⟩ = some (.int .i64 n) ∧ w'.cell? ⟨w.heap.size, 1, none⟩ = some (.slice ao l.length cap) ∧ w'.cell? ⟨w4.heap.size, 0, none⟩ = some (.int .i64 n) ∧ w'.cell? ⟨w4.heap.size, 1, none⟩ = some (.slice bo ys.length cb))) (by kernel_rfl) (by exact HS.out _ (Below.refl _ _).drew) (fun hHeld => ?_)
  refine takeH (i := 0) (d := (some 22)) (v := ?_) rfl rfl (by kernel_rfl) (by kernel_rfl) (by kernel_rfl) (fun _ _ _ h => h) (by kernel_rfl) ?_ (by assumption) ?_
  rotate_left
  · (intro w hSw; (try dsimp only at hSw); go_simp; try with_reducible rfl)
  try simp only [Act.put, List.setIfInBounds_toArray, List.set_cons_succ, List.set_cons_zero]
  refine takeH (i := 1) (d := (some 23)) (v := ?_) rfl rfl (by kernel_rfl) (by kernel_rfl) (by kernel_rfl) (fun _ _ _ h => h) (by kernel_rfl) ?_ (by assumption) ?_
  rotate_left
  · (intro w hSw; (try dsimp only at hSw); go_simp; try with_reducible rfl)
  try simp only [Act.put, List.setIfInBounds_toArray, List.set_cons_succ, List.set_cons_zero]
  refine wpAnyH_ready (rs := [2]) (by kernel_rfl) (by simp) ?_
  refine AllReadyH.cons rfl (fun K hK => ?_) AllReadyH.nil
  go_simp
  refine (toBase_any n _ l _ (HR.out _ hHeld.1).1 hs).mono ?_; rintro x w6 ⟨⟨u6, zs, he, hmz, ho⟩, hb6⟩; subst he; have h6 := hHeld.1.trans (hb6.mono hHeld.1.size); have ry := esFor_reads ho; obtain ⟨go_, gc, rfl⟩ := readsR_shape ry.rows; have HMZ : Hid (ys.map Row.e = zs.map Row.e) := (HMY.out.trans hmz.symm); clear ho hb6 hmz
  refine hK.out _ _ ?_ (fun hHeld => ?_)
  · exact HS.out _ h6
  clear hK K
  try simp only [Act.put, List.setIfInBounds_toArray, List.set_cons_succ, List.set_cons_zero]
  refine wpAnyH_ready (rs := [3]) (by kernel_rfl) (by simp) ?_
  refine AllReadyH.cons rfl (fun K hK => ?_) AllReadyH.nil
  go_simp
  refine (eqBase_true n _ _ ys zs _ (HR.out _ h6).2 ry hsy HMZ.out).mono ?_; rintro x w7 ⟨he, hb7⟩; subst he; have h7 := h6.trans (hb7.mono h6.size)
  refine hK.out _ _ ?_ (fun hHeld => ?_)
  · exact HS.out _ h7
  clear hK K
  try simp only [Act.put, List.setIfInBounds_toArray, List.set_cons_succ, List.set_cons_zero]
  refine takeH (i := 4) (d := (some 26)) (v := ?_) rfl rfl (by kernel_rfl) (by kernel_rfl) (by kernel_rfl) (fun _ _ _ h => h) (by kernel_rfl) ?_ (by assumption) ?_
  rotate_left
  · (intro w hSw; (try dsimp only at hSw); go_simp; try with_reducible rfl)
  try simp only [Act.put, List.setIfInBounds_toArray, List.set_cons_succ, List.set_cons_zero]
  refine wpAnyH_done (by kernel_rfl) ?_ _
  have hB7 := hB5.trans (h7.mono hB5.size)
  clear h7 h6 hb7 ry HS HR
  go_wp2_with fail
  go_ret
  exact ⟨rfl, hB7⟩

set_option maxRecDepth 100000 in
theorem lifted (os : Os) (started : os.Started) (H : Type) (enc : TypeId × Value → H) :
    ReturnsInHanded {} Try.checked os 4 .any (Rows.fnExactBaseOkSpec.pre6 enc Try.prog Try.f4 Rows.fnExactBaseOkRow.domain false) (Rows.fnExactBaseOkSpec.post enc Try.prog Try.f4 false true false false) := by
  refine returnsInHanded_of_change (C := Try.checked) own started (by kernel_rfl) Try.func4
    (ChangeSpec.witness6 (enc := enc) (C := Try.checked) false ⟨#[], #[.agg #[.int .i64 0, .slice none 0 0]], []⟩ 8 (by kernel_rfl) (by kernel_rfl) (by kernel_rfl) (by kernel_rfl)) ?_
  intro W base args ds gs before hval0 hW hcnd _
  have hval : ∀ (j : Nat) t v, Try.f4.params[j]? = some t → args[j]? = some v → Value.okWide Try.prog W .any base t v := hval0
  have hW' := hW
  obtain ⟨p, q, hA0, hV, rfl, hfz, hnd⟩ := hW
  have hA : DataW.TrodAll enc Try.prog W 0 (fun _ => true) true Try.f4.params.toList args.toList ds p := hA0
  rw [Try.params4] at hA hval
  obtain ⟨v0, vs0, d0, ds0, p0, q0, hargs, rfl, rfl, h0, r0⟩ := trodAll_cons hA
  obtain ⟨rfl, rfl, rfl⟩ := trodAll_nil r0
  obtain rfl : args = #[v0] := by cases args; simp_all
  obtain ⟨rfl, rfl⟩ := trodVars_none hV
  have k0 := h0
  have lt0 : ∀ x ∈ p0, x.block < W.heap.size := by obtain ⟨m, hm⟩ := k0; exact DataW.trod_lt m _ _ _ hm
  obtain ⟨n0, u0, l0, rfl, w0⟩ := bs_open1 (hval 0 38 v0 rfl rfl) h0
  clear hA0 hval0
  refine (walk n0 u0 l0 W w0.1 w0.2.1 w0.2.2.1 w0.2.2.2).mono fun e W' ⟨he, bel⟩ => ?_
  subst he
  exact ⟨_, rfl, _, _, _, [], _, [], hW', trodAll_mk1 (shut_bool Try.underlying4 _), (trodAll_cons_mk (Below.trod laidOut (by kernel_rfl) (of_decide_eq_true (by kernel_rfl)) k0 bel lt0) trodAll_mk0), rfl, bel.frame _, fun h => by cases h⟩

theorem over : Rows.fnExactBaseOkRow.holds Try.pinned (OpenSpec.ofChange Rows.fnExactBaseOkSpec) :=
  OpenClaim.holds_of_wide 4 Try.f4 rfl rfl rfl rfl rfl rfl rfl ⟨rfl, rfl, rfl, rfl, rfl⟩ rfl rfl rfl rfl rfl (by kernel_rfl) Try.func4 (by kernel_rfl)
    (of_decide_eq_true (by kernel_rfl)) (by unfold Func.isWrapper; first | (rw [if_pos (by decide +kernel)]; kernel_rfl) | (rw [if_neg (by decide +kernel)]; exact ⟨rfl, rfl⟩))
    (fun os started H enc _ => lifted os started H enc)

theorem proved : Rows.FnExactBaseOkSaid := over
end Go.Proofs.Ytfoabepeafmaoaa.fnExactBaseOk
