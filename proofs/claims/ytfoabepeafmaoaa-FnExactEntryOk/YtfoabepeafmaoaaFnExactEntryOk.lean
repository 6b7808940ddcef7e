/- Proved: at every entry EntryOk answers as its model, and writes into no argument. No condition. -/
import Derived.Test.YtfoabepeafmaoaaEnD
import Derived.Test.YtfoabepeafmaoaaEnE
import Derived.Test.YtfoabepeafmaoaaTk
import Derived.ProofKit
import Derived.OpenShut
import Derived.ShutString
import Derived.ChangeOld
import Derived.Below
import Derived.Deep.RegionWith
namespace Go.Proofs.Ytfoabepeafmaoaa.fnExactEntryOk
open Go.ChangeShapes Go.WideShapes Go.ChangeAt Go.RowKit
open Go.ChangeMaps (open_string shut_string)
set_option linter.unusedVariables false

theorem own : ownKnob Try.prog.godebug = none := by kernel_rfl
theorem laidOut : laidOutB Try.prog = true := by kernel_rfl

set_option maxHeartbeats 8000000 in
set_option maxRecDepth 100000 in
theorem walk (e : Ent) (vl vs vf : Value) (w : World) (hr : EnReads w vl vs vf e) (hf : EnFit e) :
    Calls Try.prog 3 #[enV e vl vs vf] w fun x w' => x = .returned (.bool true) ∧ Below w.heap.size w w' := by
  obtain ⟨al, cl, as_, cs, af, cf, rfl, rfl, rfl⟩ := enReads_shape hr
  have hB0 : Below w.heap.size w (w.alloc (.cells #[.string e.key, .int .i64 e.til, .int .i64 e.kind, .string e.text, .slice al e.list.length cl, .slice as_ e.scores.length cs, .slice af e.fields.length cf] 26)) := (Below.refl _ w).alloc (Nat.le_refl _) _
  go_enter Try.func3, Try.ntmps3
  go_wp2_with fail
  refine (szEntry_any e _ _ _ _ _ (enReads_kept hr hB0) hf (by omega) (by omega)).mono ?_
  rintro x w1 ⟨⟨n, rfl, hn⟩, hb1⟩
  have hB1 := hB0.trans (hb1.mono hB0.size)
  have q1 : Hid _ := (hb1.block w.heap.size (by simp)).trans (heap_alloc_new _ _)
  have hz : w.heap.size < w1.heap.size := Nat.lt_of_lt_of_le (by simp) hb1.size
  clear hb1 hB0
  rcases hn with hn | ⟨hn, _, hs⟩
  · go_wp2_with fail
    go_ret
    exact ⟨rfl, hB1⟩
  have c0 := (box7_row q1.out).c0
  have c1 := (box7_row q1.out).c1
  have c2 := (box7_row q1.out).c2
  have c3 := (box7_row q1.out).c3
  have c4 := (box7_row q1.out).c4
  have c5 := (box7_row q1.out).c5
  have c6 := (box7_row q1.out).c6
  go_wp2_with fail
  refine (toEntry_any e _ _ _ _ (enReads_kept hr hB1) hs).mono ?_
  rintro x w2 ⟨⟨ul, us, uf, rfl, ho⟩, hb2⟩
  have hr2 := enOwn_reads ho
  have hB2 := hB1.trans (hb2.mono hB1.size)
  have q2 : Hid _ := (hb2.block w.heap.size hz).trans q1.out
  have hz2 : w.heap.size < w2.heap.size := Nat.lt_of_lt_of_le hz hb2.size
  clear hb2 hB1 c0 c1 c2 c3 c4 c5 c6 q1 ho
  go_wp2_with fail
  refine (specEntryOk_any e _ _ _ _ hr2 hs).mono ?_
  rintro x w3 ⟨rfl, hb3⟩
  have hB3 := hB2.trans (hb3.mono hB2.size)
  have q3 : Hid _ := (hb3.block w.heap.size hz2).trans q2.out
  have hz3 : w.heap.size < w3.heap.size := Nat.lt_of_lt_of_le hz2 hb3.size
  clear hb3 hB2 q2 hr2
  have c0 := (box7_row q3.out).c0
  have c1 := (box7_row q3.out).c1
  have c2 := (box7_row q3.out).c2
  have c3 := (box7_row q3.out).c3
  have c4 := (box7_row q3.out).c4
  have c5 := (box7_row q3.out).c5
  have c6 := (box7_row q3.out).c6
  go_wp2_with fail
  refine (toEntry_any e _ _ _ _ (enReads_kept hr hB3) hs).mono ?_
  rintro x w4 ⟨⟨xl, xs, xf, rfl, ho⟩, hb4⟩
  have hr4 := enOwn_reads ho
  have hB4 := hB3.trans (hb4.mono hB3.size)
  have q4 : Hid _ := (hb4.block w.heap.size hz3).trans q3.out
  have hz4 : w.heap.size < w4.heap.size := Nat.lt_of_lt_of_le hz3 hb4.size
  obtain ⟨bl, dl, bs, ds, bf, df, rfl, rfl, rfl⟩ := enReads_shape hr4
  clear hb4 hB3 c0 c1 c2 c3 c4 c5 c6 q3 ho
  go_wp2_with fail
  have hA4 : Below w4.heap.size w4 (w4.alloc (.cells #[.string e.key, .int .i64 e.til, .int .i64 e.kind, .string e.text, .slice bl e.list.length dl, .slice bs e.scores.length ds, .slice bf e.fields.length df] 32)) := (Below.refl _ w4).alloc (Nat.le_refl _) _
  refine (implEntryOk_any e _ _ _ _ (enReads_kept hr4 hA4) hs hs.key hs.text).mono ?_
  rintro x w5 ⟨rfl, hb5⟩
  have hA5 := hA4.trans (hb5.mono hA4.size)
  have hB5 := hB4.trans (hA5.mono hB4.size)
  have p5 : Hid _ := (hb5.block w4.heap.size (by simp)).trans (heap_alloc_new _ _)
  have hz5 : w4.heap.size < w5.heap.size := Nat.lt_of_lt_of_le (by simp) hb5.size
  have q5 : Hid _ := (hA5.block w.heap.size hz4).trans q4.out
  have hr5 := enReads_kept hr4 hA5
  have hn5 : (enOkB e != enOkB e) = false := by simp
  have HS : Hid (∀ w', Below w5.heap.size w5 w' → Below w5.heap.size w5 w' ∧ w'.cell? ⟨w.heap.size, 0, none⟩ = some (.string e.key) ∧ w'.cell? ⟨w.heap.size, 1, none⟩ = some (.int .i64 e.til) ∧ w'.cell? ⟨w.heap.size, 2, none⟩ = some (.int .i64 e.kind) ∧ w'.cell? ⟨w.heap.size, 3, none⟩ = some (.string e.text) ∧ w'.cell? ⟨w.heap.size, 4, none⟩ = some (.slice al e.list.length cl) ∧ w'.cell? ⟨w.heap.size, 5, none⟩ = some (.slice as_ e.scores.length cs) ∧ w'.cell? ⟨w.heap.size, 6, none⟩ = some (.slice af e.fields.length cf) ∧ w'.cell? ⟨w4.heap.size, 0, none⟩ = some (.string e.key) ∧ w'.cell? ⟨w4.heap.size, 1, none⟩ = some (.int .i64 e.til) ∧ w'.cell? ⟨w4.heap.size, 2, none⟩ = some (.int .i64 e.kind) ∧ w'.cell? ⟨w4.heap.size, 3, none⟩ = some (.string e.text) ∧ w'.cell? ⟨w4.heap.size, 4, none⟩ = some (.slice bl e.list.length dl) ∧ w'.cell? ⟨w4.heap.size, 5, none⟩ = some (.slice bs e.scores.length ds) ∧ w'.cell? ⟨w4.heap.size, 6, none⟩ = some (.slice bf e.fields.length df)) := fun w' h =>
    ⟨h, (box7_below (box7_row q5.out) h (by omega)).c0, (box7_below (box7_row q5.out) h (by omega)).c1, (box7_below (box7_row q5.out) h (by omega)).c2, (box7_below (box7_row q5.out) h (by omega)).c3, (box7_below (box7_row q5.out) h (by omega)).c4, (box7_below (box7_row q5.out) h (by omega)).c5, (box7_below (box7_row q5.out) h (by omega)).c6, (box7_below (box7_row p5.out) h hz5).c0, (box7_below (box7_row p5.out) h hz5).c1, (box7_below (box7_row p5.out) h hz5).c2, (box7_below (box7_row p5.out) h hz5).c3, (box7_below (box7_row p5.out) h hz5).c4, (box7_below (box7_row p5.out) h hz5).c5, (box7_below (box7_row p5.out) h hz5).c6⟩
  have HR : Hid (∀ w', Below w5.heap.size w5 w' → EnReads w' (.slice al e.list.length cl) (.slice as_ e.scores.length cs) (.slice af e.fields.length cf) e ∧ EnReads w' (.slice bl e.list.length dl) (.slice bs e.scores.length ds) (.slice bf e.fields.length df) e) := fun w' h => ⟨enReads_kept (enReads_kept hr hB5) h, enReads_kept hr5 h⟩
  clear hb5 hA4 hA5 hB4 q4 p5 q5 hr5 hr4 hr
  go_wp2_with fail
  refine wp_region_held_drew (S := (fun w' => Below w5.heap.size w5 w' ∧ w'.cell? ⟨w.heap.size, 0, none⟩ = some (.string e.key) ∧ w'.cell? ⟨w.heap.size, 1, none⟩ = some (.int .i64 e.til) ∧ w'.cell? ⟨w.heap.size, 2, none⟩ = some (.int .i64 e.kind) ∧ w'.cell? ⟨w.heap.size, 3, none⟩ = some (.string e.text) ∧ w'.cell? ⟨w.heap.size, 4, none⟩ = some (.slice al e.list.length cl) ∧ w'.cell? ⟨w.heap.size, 5, none⟩ = some (.slice as_ e.scores.length cs) ∧ w'.cell? ⟨w.heap.size, 6, none⟩ = some (.slice af e.fields.length cf) ∧ w'.cell? ⟨w4.heap.size, 0, none⟩ = some (.string e.key) ∧ w'.cell? ⟨w4.heap.size, 1, none⟩ = some (.int .i64 e.til) ∧ w'.cell? ⟨w4.heap.size, 2, none⟩ = some (.int .i64 e.kind) ∧ w'.cell? ⟨w4.heap.size, 3, none⟩ = some (.string e.text) ∧ w'.cell? ⟨w4.heap.size, 4, none⟩ = some (.slice bl e.list.length dl) ∧ w'.cell? ⟨w4.heap.size, 5, none⟩ = some (.slice bs e.scores.length ds) ∧ w'.cell? ⟨w4.heap.size, 6, none⟩ = some (.slice bf e.fields.length df))) (by kernel_rfl) (by exact HS.out _ (Below.refl _ _).drew) (fun hHeld => ?_)
  refine takeH (i := 0) (d := (some 22)) (v := ?_) rfl rfl (by kernel_rfl) (by kernel_rfl) (by kernel_rfl) (fun _ _ _ h => h) (by kernel_rfl) ?_ (by assumption) ?_
  rotate_left
  · (intro w hSw; (try dsimp only at hSw); go_simp; try with_reducible rfl)
  try simp only [Act.put, List.setIfInBounds_toArray, List.set_cons_succ, List.set_cons_zero]
  refine takeH (i := 1) (d := (some 23)) (v := ?_) rfl rfl (by kernel_rfl) (by kernel_rfl) (by kernel_rfl) (fun _ _ _ h => h) (by kernel_rfl) ?_ (by assumption) ?_
  rotate_left
  · (intro w hSw; (try dsimp only at hSw); go_simp; try with_reducible rfl)
  try simp only [Act.put, List.setIfInBounds_toArray, List.set_cons_succ, List.set_cons_zero]
  refine wpAnyH_ready (rs := [2]) (by kernel_rfl) (by simp) ?_
  refine AllReadyH.cons rfl (fun K hK => ?_) AllReadyH.nil
  go_simp
  refine (toEntry_any e _ _ _ _ (HR.out _ hHeld.1).1 hs).mono ?_; rintro x w6 ⟨⟨yl, ys, yf, he, ho⟩, hb6⟩; subst he; have h6 := hHeld.1.trans (hb6.mono hHeld.1.size); have ry := enOwn_reads ho; obtain ⟨gl, kl, gs, ks, gf, kf, rfl, rfl, rfl⟩ := enReads_shape ry; clear ho hb6
  refine hK.out _ _ ?_ (fun hHeld => ?_)
  · exact HS.out _ h6
  clear hK K
  try simp only [Act.put, List.setIfInBounds_toArray, List.set_cons_succ, List.set_cons_zero]
  refine wpAnyH_ready (rs := [3]) (by kernel_rfl) (by simp) ?_
  refine AllReadyH.cons rfl (fun K hK => ?_) AllReadyH.nil
  go_simp
  refine (eqEntry_true e _ _ _ _ _ _ _ (HR.out _ h6).2 ry hs).mono ?_; rintro x w7 ⟨he, hb7⟩; subst he; have h7 := h6.trans (hb7.mono h6.size)
  refine hK.out _ _ ?_ (fun hHeld => ?_)
  · exact HS.out _ h7
  clear hK K
  try simp only [Act.put, List.setIfInBounds_toArray, List.set_cons_succ, List.set_cons_zero]
  refine takeH (i := 4) (d := (some 26)) (v := ?_) rfl rfl (by kernel_rfl) (by kernel_rfl) (by kernel_rfl) (fun _ _ _ h => h) (by kernel_rfl) ?_ (by assumption) ?_
  rotate_left
  · (intro w hSw; (try dsimp only at hSw); go_simp; try with_reducible rfl)
  try simp only [Act.put, List.setIfInBounds_toArray, List.set_cons_succ, List.set_cons_zero]
  refine wpAnyH_done (by kernel_rfl) ?_ _
  have hB7 := hB5.trans (h7.mono hB5.size)
  clear h7 h6 hb7 ry HS HR
  go_wp2_with fail
  go_ret
  exact ⟨rfl, hB7⟩

set_option maxRecDepth 100000 in
theorem lifted (os : Os) (started : os.Started) (H : Type) (enc : TypeId × Value → H) :
    ReturnsInHanded {} Try.checked os 3 .any (Rows.fnExactEntryOkSpec.pre6 enc Try.prog Try.f3 Rows.fnExactEntryOkRow.domain false) (Rows.fnExactEntryOkSpec.post enc Try.prog Try.f3 false true false false) := by
  refine returnsInHanded_of_change (C := Try.checked) own started (by kernel_rfl) Try.func3
    (ChangeSpec.witness6 (enc := enc) (C := Try.checked) false ⟨#[], #[.agg #[.string ByteArray.empty, .int .i64 0, .int .i64 0, .string ByteArray.empty, .slice none 0 0, .slice none 0 0, .slice none 0 0]], []⟩ 8 (by kernel_rfl) (by kernel_rfl) (by kernel_rfl) (by kernel_rfl)) ?_
  intro W base args ds gs before hval0 hW hcnd _
  have hval : ∀ (j : Nat) t v, Try.f3.params[j]? = some t → args[j]? = some v → Value.okWide Try.prog W .any base t v := hval0
  have hW' := hW
  obtain ⟨p, q, hA0, hV, rfl, hfz, hnd⟩ := hW
  have hA : DataW.TrodAll enc Try.prog W 0 (fun _ => true) true Try.f3.params.toList args.toList ds p := hA0
  rw [Try.params3] at hA hval
  obtain ⟨v0, vs0, d0, ds0, p0, q0, hargs, rfl, rfl, h0, r0⟩ := trodAll_cons hA
  obtain ⟨rfl, rfl, rfl⟩ := trodAll_nil r0
  obtain rfl : args = #[v0] := by cases args; simp_all
  obtain ⟨rfl, rfl⟩ := trodVars_none hV
  have k0 := h0
  have lt0 : ∀ x ∈ p0, x.block < W.heap.size := by obtain ⟨m, hm⟩ := k0; exact DataW.trod_lt m _ _ _ hm
  obtain ⟨e0, vl0, vs0, vf0, rfl, w0⟩ := en_open1 (hval 0 26 v0 rfl rfl) h0
  clear hA0 hval0
  refine (walk e0 vl0 vs0 vf0 W w0.1 w0.2).mono fun e W' ⟨he, bel⟩ => ?_
  subst he
  exact ⟨_, rfl, _, _, _, [], _, [], hW', trodAll_mk1 (shut_bool Try.underlying4 _), (trodAll_cons_mk (Below.trod laidOut (by kernel_rfl) (of_decide_eq_true (by kernel_rfl)) k0 bel lt0) trodAll_mk0), rfl, bel.frame _, fun h => by cases h⟩

theorem over : Rows.fnExactEntryOkRow.holds Try.pinned (OpenSpec.ofChange Rows.fnExactEntryOkSpec) :=
  OpenClaim.holds_of_wide 3 Try.f3 rfl rfl rfl rfl rfl rfl rfl ⟨rfl, rfl, rfl, rfl, rfl⟩ rfl rfl rfl rfl rfl (by kernel_rfl) Try.func3 (by kernel_rfl)
    (of_decide_eq_true (by kernel_rfl)) (by unfold Func.isWrapper; first | (rw [if_pos (by decide +kernel)]; kernel_rfl) | (rw [if_neg (by decide +kernel)]; exact ⟨rfl, rfl⟩))
    (fun os started H enc _ => lifted os started H enc)

theorem proved : Rows.FnExactEntryOkSaid := over
end Go.Proofs.Ytfoabepeafmaoaa.fnExactEntryOk
