/- Proved: at every stream StreamOk answers as its model; it writes into no argument. No condition. -/
import Derived.Test.YtbkllceceaedpaaStV
import Derived.Test.YtbkllceceaedpaaStO
import Derived.ProofKit
import Derived.OpenShut
import Derived.ShutString
import Derived.ChangeOld
import Derived.Below
import Derived.Deep.RegionWith
namespace Go.Proofs.Ytbkllceceaedpaa.fnExactStreamOk
open Go.ChangeShapes Go.WideShapes Go.ChangeAt Go.RowKit
open Go.ChangeMaps (open_string shut_string)
set_option linter.unusedVariables false

theorem own : ownKnob Try.prog.godebug = none := by kernel_rfl
theorem laidOut : laidOutB Try.prog = true := by kernel_rfl
theorem st_small_map {li mi : List ItRow} {lg mg : List GpRow} (hi : mi.map ItRow.e = li.map ItRow.e) (hg : mg.map GpRow.e = lg.map GpRow.e) (hs : StSmall li lg) : StSmall mi mg := ⟨it_small_map hi hs.i, gp_small_map hg hs.g⟩
theorem lastS {wr w2 : World} {a b : Prop} (hh : a ∧ b ∧ Below wr.heap.size wr w2) : Below wr.heap.size wr w2 := hh.2.2
set_option maxHeartbeats 8000000 in
set_option maxRecDepth 100000 in
theorem walk (t n : Int) (vi vg : Value) (li : List ItRow) (lg : List GpRow) (w : World) (hr : StReads w vi vg li lg) (hf : StFit li lg) (wf : (Lit.int .i64 t).wf = true) (wf2 : (Lit.int .i64 n).wf = true) :
    Calls Try.prog 3 #[stV t n vi vg] w fun e w' => e = .returned (.bool true) ∧ Below w.heap.size w w' := by
  obtain ⟨ai, ci, rfl⟩ := readsR_shape hr.i.rows
  obtain ⟨ag, cg, rfl⟩ := readsR_shape hr.g.rows
  obtain ⟨w0, hW⟩ : ∃ W, w.alloc (.cells #[.int .i64 t, .int .i64 n, .slice ai li.length ci, .slice ag lg.length cg] 27) = W := ⟨_, rfl⟩
  have hB0 : Below w.heap.size w w0 := by rw [← hW]; exact (Below.refl _ w).alloc (Nat.le_refl _) _
  have hz0 : w.heap.size < w0.heap.size := by rw [← hW]; simp
  have Q0 : Hid (w0.heap[w.heap.size]? = some (.cells #[.int .i64 t, .int .i64 n, .slice ai li.length ci, .slice ag lg.length cg] 27 (0, 0))) := by show _ = _; rw [← hW]; exact heap_alloc_new _ _
  obtain ⟨x0, x1, x2, x3⟩ := cells4 Q0.out
  go_enter Try.func3, Try.ntmps3
  go_wp2_with fail
  clear hW x0 x1 x2 x3
  refine (szStream_any t n _ _ li lg _ _ (stReads_kept hr hB0) hf (by omega) (by omega)).mono ?_
  rintro e w1 ⟨⟨m, rfl, hm⟩, hb1⟩
  have hB1 := hB0.trans (hb1.mono hB0.size)
  have hbr1 := hb1
  clear hb1
  rcases hm with hm | ⟨hm0, hm1, hs⟩
  · go_wp2_with fail
    go_ret
    exact ⟨rfl, hB1⟩
  have HS : Hid (StSmall li lg) := hs
  clear hs
  have HTS : Hid (∀ W, Below w.heap.size w W → Calls Try.prog 10 #[stV t n (.slice ai li.length ci) (.slice ag lg.length cg)] W fun e w' => (∃ ui ug yi yg, e = .returned (stV t n ui ug) ∧ yi.map ItRow.e = li.map ItRow.e ∧ yg.map GpRow.e = lg.map GpRow.e ∧ StFor w' W.heap.size w'.heap.size ui ug yi yg) ∧ Below W.heap.size W w') := fun W hB => toStream_any t n _ _ li lg W (stReads_kept hr hB) HS.out
  obtain ⟨x0, x1, x2, x3⟩ := cells4 ((hbr1.block w.heap.size hz0).trans Q0.out)
  go_wp2_with fail
  clear x0 x1 x2 x3
  refine (HTS.out _ hB1).mono ?_
  rintro e w2 ⟨⟨ui, ug, yi, yg, rfl, hmi, hmg, ho⟩, hb2⟩
  have hB2 := hB1.trans (hb2.mono hB1.size)
  have hbr2 := hbr1.trans (hb2.mono hbr1.size)
  clear hb2 hB1 hbr1
  obtain ⟨bi, di, hui⟩ := readsR_shape (stFor_reads ho).i.rows
  obtain ⟨bg, dg, hug⟩ := readsR_shape (stFor_reads ho).g.rows
  subst hui hug
  have HE : Hid (stOkB t n yi yg = stOkB t n li lg) := stOkB_map hmi hmg
  go_wp2_with fail
  refine (specStOk_any t n _ _ yi yg _ (stFor_reads ho) (st_small_map hmi hmg HS.out)).mono ?_
  rintro e w3 ⟨rfl, hb3⟩
  have hB3 := hB2.trans (hb3.mono hB2.size)
  have hbr3 := hbr2.trans (hb3.mono hbr2.size)
  clear hb3 hB2 hbr2 ho hmi hmg
  rw [HE.out]
  obtain ⟨B, hBB⟩ : ∃ B, stOkB t n li lg = B := ⟨_, rfl⟩
  rw [hBB]
  have HB : Hid (stOkB t n li lg = B) := hBB
  clear hBB HE
  obtain ⟨x0, x1, x2, x3⟩ := cells4 ((hbr3.block w.heap.size hz0).trans Q0.out)
  go_wp2_with fail
  clear x0 x1 x2 x3
  refine (HTS.out _ hB3).mono ?_
  rintro e w4 ⟨⟨ui, ug, zi, zg, rfl, hmi, hmg, ho⟩, hb4⟩
  have hB4 := hB3.trans (hb4.mono hB3.size)
  have hbr4 := hbr3.trans (hb4.mono hbr3.size)
  clear hb4 hB3 hbr3
  obtain ⟨ei, fi, hui⟩ := readsR_shape (stFor_reads ho).i.rows
  obtain ⟨eg, fg, hug⟩ := readsR_shape (stFor_reads ho).g.rows
  subst hui hug
  have HE : Hid (stOkB t n zi zg = B) := (stOkB_map hmi hmg).trans HB.out
  obtain ⟨w5, hW⟩ : ∃ W, w4.alloc (.cells #[.int .i64 t, .int .i64 n, .slice ei zi.length fi, .slice eg zg.length fg] 34) = W := ⟨_, rfl⟩
  have hb5 : Below w4.heap.size w4 w5 := by rw [← hW]; exact (Below.refl _ _).alloc (Nat.le_refl _) _
  have hz5 : w4.heap.size < w5.heap.size := by rw [← hW]; simp
  have Q5 : Hid (w5.heap[w4.heap.size]? = some (.cells #[.int .i64 t, .int .i64 n, .slice ei zi.length fi, .slice eg zg.length fg] 34 (0, 0))) := by show _ = _; rw [← hW]; exact heap_alloc_new _ _
  obtain ⟨x0, x1, x2, x3⟩ := cells4 Q5.out
  have hB5 := hB4.trans (hb5.mono hB4.size)
  have hbr5 := hbr4.trans (hb5.mono hbr4.size)
  have ho5 := stFor_kept ho hb5
  have HMI : Hid _ := hmi
  have HMG : Hid _ := hmg
  clear hb5 hB4 hbr4 ho hmi hmg
  go_wp2_with fail
  clear hW x0 x1 x2 x3
  refine (implStOk_any t n _ _ zi zg _ (stFor_reads ho5) (st_small_map HMI.out HMG.out HS.out)).mono ?_
  rintro e w6 ⟨rfl, hb6⟩
  have hB6 := hB5.trans (hb6.mono hB5.size)
  have hbr6 := hbr5.trans (hb6.mono hbr5.size)
  have ho6 := stFor_kept ho5 hb6
  have Q6 : Hid _ := (hb6.block w4.heap.size hz5).trans Q5.out
  have hz6 := hb6.size
  clear hb6 hB5 hbr5 ho5
  rw [HE.out]
  have hne : (B != B) = false := by simp
  have HSX : Hid (∀ w', Below w6.heap.size w6 w' → (w'.cell? ⟨w.heap.size, 0, none⟩ = some (.int .i64 t) ∧ w'.cell? ⟨w.heap.size, 1, none⟩ = some (.int .i64 n) ∧ w'.cell? ⟨w.heap.size, 2, none⟩ = some (.slice ai li.length ci) ∧ w'.cell? ⟨w.heap.size, 3, none⟩ = some (.slice ag lg.length cg)) ∧ (w'.cell? ⟨w4.heap.size, 0, none⟩ = some (.int .i64 t) ∧ w'.cell? ⟨w4.heap.size, 1, none⟩ = some (.int .i64 n) ∧ w'.cell? ⟨w4.heap.size, 2, none⟩ = some (.slice ei zi.length fi) ∧ w'.cell? ⟨w4.heap.size, 3, none⟩ = some (.slice eg zg.length fg)) ∧ Below w6.heap.size w6 w') := fun w' h =>
    ⟨cells4 ((h.block w.heap.size (by have := hbr6.size; omega)).trans ((hbr6.block w.heap.size hz0).trans Q0.out)), cells4 ((h.block w4.heap.size (by omega)).trans Q6.out), h⟩
  go_wp2_with fail
  refine wp_region_held_drew (S := (fun w' => (w'.cell? ⟨w.heap.size, 0, none⟩ = some (.int .i64 t) ∧ w'.cell? ⟨w.heap.size, 1, none⟩ = some (.int .i64 n) ∧ w'.cell? ⟨w.heap.size, 2, none⟩ = some (.slice ai li.length ci) ∧ w'.cell? ⟨w.heap.size, 3, none⟩ = some (.slice ag lg.length cg)) ∧ (w'.cell? ⟨w4.heap.size, 0, none⟩ = some (.int .i64 t) ∧ w'.cell? ⟨w4.heap.size, 1, none⟩ = some (.int .i64 n) ∧ w'.cell? ⟨w4.heap.size, 2, none⟩ = some (.slice ei zi.length fi) ∧ w'.cell? ⟨w4.heap.size, 3, none⟩ = some (.slice eg zg.length fg)) ∧ Below w6.heap.size w6 w')) (by kernel_rfl) (by exact HSX.out _ (Below.refl _ _).drew) (fun hHeld => ?_)
  refine takeH (i := 0) (d := (some 22)) (v := ?_) rfl rfl (by kernel_rfl) (by kernel_rfl) (by kernel_rfl) (fun _ _ _ h => h) (by kernel_rfl) ?_ (by assumption) ?_
  rotate_left
  · (intro w hSw; (try dsimp only at hSw); go_simp; try with_reducible rfl)
  try simp only [Act.put, List.setIfInBounds_toArray, List.set_cons_succ, List.set_cons_zero]
  refine takeH (i := 1) (d := (some 23)) (v := ?_) rfl rfl (by kernel_rfl) (by kernel_rfl) (by kernel_rfl) (fun _ _ _ h => h) (by kernel_rfl) ?_ (by assumption) ?_
  rotate_left
  · (intro w hSw; (try dsimp only at hSw); go_simp; try with_reducible rfl)
  try simp only [Act.put, List.setIfInBounds_toArray, List.set_cons_succ, List.set_cons_zero]
  refine wpAnyH_ready (rs := [2]) (by kernel_rfl) (by simp) ?_
  refine AllReadyH.cons rfl (fun K hK => ?_) AllReadyH.nil
  go_simp
  refine (HTS.out _ (hB6.trans ((lastS hHeld).mono hB6.size))).mono ?_; rintro e w7 ⟨⟨ui, ug, si, sg, he, hmi, hmg, ho⟩, hb7⟩; subst he; have h7 := (lastS hHeld).trans (hb7.mono (lastS hHeld).size); have rs := stFor_reads ho; obtain ⟨pi, ri, hui⟩ := readsR_shape rs.i.rows; obtain ⟨pg, rg, hug⟩ := readsR_shape rs.g.rows; subst hui hug; have HI2 : Hid (zi.map ItRow.e = si.map ItRow.e) := HMI.out.trans hmi.symm; have HG2 : Hid (zg.map GpRow.e = sg.map GpRow.e) := HMG.out.trans hmg.symm; clear ho hb7 hmi hmg
  refine hK.out _ _ ?_ (fun hHeld => ?_)
  · exact HSX.out _ h7
  clear hK K
  try simp only [Act.put, List.setIfInBounds_toArray, List.set_cons_succ, List.set_cons_zero]
  refine wpAnyH_ready (rs := [3]) (by kernel_rfl) (by simp) ?_
  refine AllReadyH.cons rfl (fun K hK => ?_) AllReadyH.nil
  go_simp
  refine (eqStream_true t n _ _ _ _ zi si zg sg _ (stReads_kept (stFor_reads ho6) h7) rs (st_small_map HMI.out HMG.out HS.out) HI2.out HG2.out).mono ?_; rintro e w8 ⟨he, hb8⟩; subst he; have h8 := h7.trans (hb8.mono h7.size)
  refine hK.out _ _ ?_ (fun hHeld => ?_)
  · exact HSX.out _ h8
  clear hK K
  try simp only [Act.put, List.setIfInBounds_toArray, List.set_cons_succ, List.set_cons_zero]
  refine takeH (i := 4) (d := (some 26)) (v := ?_) rfl rfl (by kernel_rfl) (by kernel_rfl) (by kernel_rfl) (fun _ _ _ h => h) (by kernel_rfl) ?_ (by assumption) ?_
  rotate_left
  · (intro w hSw; (try dsimp only at hSw); go_simp; try with_reducible rfl)
  try simp only [Act.put, List.setIfInBounds_toArray, List.set_cons_succ, List.set_cons_zero]
  refine wpAnyH_done (by kernel_rfl) ?_ _
  have hB8 := hB6.trans (h8.mono hB6.size)
  go_wp2_with fail
  go_ret
  exact ⟨rfl, hB8⟩

set_option maxRecDepth 100000 in
theorem lifted (os : Os) (started : os.Started) (H : Type) (enc : TypeId × Value → H) :
    ReturnsInHanded {} Try.checked os 3 .any (Rows.fnExactStreamOkSpec.pre6 enc Try.prog Try.f3 Rows.fnExactStreamOkRow.domain false) (Rows.fnExactStreamOkSpec.post enc Try.prog Try.f3 false true false false) := by
  refine returnsInHanded_of_change (C := Try.checked) own started (by kernel_rfl) Try.func3
    (ChangeSpec.witness6 (enc := enc) (C := Try.checked) false ⟨#[], #[.agg #[.int .i64 0, .int .i64 0, .slice none 0 0, .slice none 0 0]], []⟩ 8 (by kernel_rfl) (by kernel_rfl) (by kernel_rfl) (by kernel_rfl)) ?_
  intro W base args ds gs before hval0 hW hcnd _
  have hval : ∀ (j : Nat) t v, Try.f3.params[j]? = some t → args[j]? = some v → Value.okWide Try.prog W .any base t v := hval0
  have hW' := hW
  obtain ⟨p, q, hA0, hV, rfl, hfz, hnd⟩ := hW
  have hA : DataW.TrodAll enc Try.prog W 0 (fun _ => true) true Try.f3.params.toList args.toList ds p := hA0
  rw [Try.params3] at hA hval
  obtain ⟨v0, vs0, d0, ds0, p0, q0, hargs, rfl, rfl, h0, r0⟩ := trodAll_cons hA
  obtain ⟨rfl, rfl, rfl⟩ := trodAll_nil r0
  obtain rfl : args = #[v0] := by cases args; simp_all
  obtain ⟨rfl, rfl⟩ := trodVars_none hV
  have k0 := h0
  have lt0 : ∀ x ∈ p0, x.block < W.heap.size := by obtain ⟨m, hm⟩ := k0; exact DataW.trod_lt m _ _ _ hm
  obtain ⟨t0, n0, vi0, vg0, li0, lg0, rfl, w0⟩ := st_open1 (hval 0 27 v0 rfl rfl) h0
  clear hA0 hval0
  refine (walk t0 n0 vi0 vg0 li0 lg0 W w0.1 w0.2.1 w0.2.2.1 w0.2.2.2).mono fun e W' ⟨he, bel⟩ => ?_
  subst he
  exact ⟨_, rfl, _, _, _, [], _, [], hW', trodAll_mk1 (shut_bool Try.underlying4 _), (trodAll_cons_mk (Below.trod laidOut (by kernel_rfl) (of_decide_eq_true (by kernel_rfl)) k0 bel lt0) trodAll_mk0), rfl, bel.frame _, fun h => by cases h⟩

theorem over : Rows.fnExactStreamOkRow.holds Try.pinned (OpenSpec.ofChange Rows.fnExactStreamOkSpec) :=
  OpenClaim.holds_of_wide 3 Try.f3 rfl rfl rfl rfl rfl rfl rfl ⟨rfl, rfl, rfl, rfl, rfl⟩ rfl rfl rfl rfl rfl (by kernel_rfl) Try.func3 (by kernel_rfl)
    (of_decide_eq_true (by kernel_rfl)) (by unfold Func.isWrapper; first | (rw [if_pos (by decide +kernel)]; kernel_rfl) | (rw [if_neg (by decide +kernel)]; exact ⟨rfl, rfl⟩))
    (fun os started H enc _ => lifted os started H enc)

theorem proved : Rows.FnExactStreamOkSaid := over
end Go.Proofs.Ytbkllceceaedpaa.fnExactStreamOk
