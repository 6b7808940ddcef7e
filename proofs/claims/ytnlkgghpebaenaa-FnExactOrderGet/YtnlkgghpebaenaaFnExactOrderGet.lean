/- Proved: at every text OrderGet answers as its model, field by field; its answer owns its memory, behind another call too. No condition. -/
import Derived.Test.YtnlkgghpebaenaaOrdT
import Derived.Test.YtnlkgghpebaenaaOrdP
import Derived.Test.YtnlkgghpebaenaaOwn
import Derived.ProofKit
import Derived.OpenShut
import Derived.ShutString
import Derived.ChangeOld
import Derived.Below
import Derived.Deep.RegionWith
namespace Go.Proofs.Ytnlkgghpebaenaa.fnExactOrderGet
open Go.ChangeShapes Go.WideShapes Go.ChangeAt Go.RowKit
open Go.ChangeMaps (open_string shut_string)
set_option linter.unusedVariables false

theorem own : ownKnob Try.prog.godebug = none := by kernel_rfl
theorem laidOut : laidOutB Try.prog = true := by kernel_rfl

theorem ordL_len : ∀ (f : Nat) (ws : List ByteArray) (l : List UInt8) (p : Nat), (ordL f ws l p).1.length ≤ ws.length + f
  | 0, ws, _, p => by simp [ordL]
  | _ + 1, _, [], _ => by simp [ordL]
  | f + 1, ws, c :: t, p => by
    unfold ordL
    split
    · simp
    · split
      · simp
      · split
        · simp
        · split
          · simp
          · have := ordL_len f (ws ++ [⟨((t.drop (digs 3 t + 2)).take (num.figs (t.take (digs 3 t))).toNat).toArray⟩]) ((t.drop (digs 3 t + 2)).drop ((num.figs (t.take (digs 3 t))).toNat + 2)) (p + 1 + (digs 3 t) + 2 + (num.figs (t.take (digs 3 t))).toNat + 2)
            simp at this ⊢; omega
theorem res_len0 (s : ByteArray) : (ordR s.data.toList).1.length ≤ 1048576 := by
  rcases start_cases s with ⟨_, h⟩ | ⟨_, h⟩ | ⟨n, p, b, _, hn, h, _⟩
  · rw [h]; simp
  · rw [h]; simp
  · rw [h]; have := ordL_len n [] b.data.toList p; simp at this; omega
theorem spec_any (s : ByteArray) (w : World) (hs : (s.size : Int) ≤ 1048576) :
    Calls Try.prog 7 #[.string s] w fun e w' => ∃ u, e = .returned (.tuple #[u, .int .i64 (ordR s.data.toList).2]) ∧ Own w' w.heap.size w'.heap.size u (ordR s.data.toList).1 ∧ Below w.heap.size w w' :=
  (specGet_any s w (by omega)).mono fun _ _ ⟨u, h, ho, hB⟩ => ⟨u, h, own_of ho, hB⟩
theorem impl_any (s : ByteArray) (w : World) (hs : (s.size : Int) ≤ 1048576) :
    Calls Try.prog 6 #[.string s] w fun e w' => ∃ u, e = .returned (.tuple #[u, .int .i64 (ordR s.data.toList).2]) ∧ Own w' w.heap.size w'.heap.size u (ordR s.data.toList).1 ∧ Below w.heap.size w w' := by
  have := orderGet_any s w (by omega)
  rw [mach_ord] at this
  exact this.mono fun _ _ ⟨u, h, ho, hB⟩ => ⟨u, h, own_of ho, hB⟩

set_option maxHeartbeats 8000000 in
theorem walk (a0 : ByteArray) (w : World) (wf0 : a0.size ≤ maxLen) :
    Calls Try.prog 4 #[.string a0] w fun e w' => e = .returned (.bool true) ∧ Below w.heap.size w w' := by
  have wg0 := wf0
  unfold maxLen at wg0
  rcases Int.lt_or_le (1048576 : Int) (a0.size : Int) with hx0 | hx0
  · go_enter Try.func4, Try.ntmps4
    go_wp2_with fail
    go_ret
    exact ⟨rfl, Below.refl _ _⟩
  ·
    have HB0 := Below.refl w.heap.size w
    have hW0 : w.heap.size ≤ w.heap.size := Nat.le_refl _
    have hR0 : ((ordR a0.data.toList).1).length ≤ 1048576 := res_len0 a0 
    go_enter Try.func4, Try.ntmps4
    go_wp2_with fail
    refine (spec_any a0 _  hx0).mono ?_
    rintro e w1 ⟨s0, rfl, os0_1, hb1⟩
    have HB1 := below_step HB0 hW0 hb1
    have hW1 := HB1.size
    have hM1 := hb1.size
    clear hb1 HB0
    go_wp2_with fail
    refine (impl_any a0 _  hx0).mono ?_
    rintro e w2 ⟨g0, rfl, og0_2, hb2⟩
    have HB2 := below_step HB1 hW1 hb2
    have hW2 := HB2.size
    have hM2 := hb2.size
    have os0_2 := own_kept os0_1 hb2
    clear hb2 HB1 os0_1
    go_wp2_with fail
    refine (eq_true g0 s0 ((ordR a0.data.toList).1) _ (own_reads og0_2) (own_reads os0_2) hR0).mono ?_
    rintro e w3 ⟨rfl, hb3⟩
    have HB3 := below_step HB2 hW2 hb3
    have hW3 := HB3.size
    have hM3 := hb3.size
    have os0_3 := own_kept os0_2 hb3
    have og0_3 := own_kept og0_2 hb3
    clear hb3 HB2 os0_2 og0_2
    go_wp2_with fail
    refine (mark_own g0 ((ordR a0.data.toList).1) _ _ _ og0_3 hR0).mono ?_
    rintro e w4 ⟨rfl, og0_4, hb4⟩
    have HB4 := below_own HB3 hW3 og0_3 (by omega) hb4
    have hW4 := HB4.size
    have hM4 := hb4.size
    have os0_4 := own_apart os0_3 og0_3 hb4 (by omega)
    clear hb4 HB3 os0_3 og0_3
    go_wp2_with fail
    refine (held_own g0 ((ordR a0.data.toList).1).length _ _ _ og0_4 hR0).mono ?_
    rintro e w5 ⟨rfl, hb5⟩
    have HB5 := below_step HB4 hW4 hb5
    have hW5 := HB5.size
    have hM5 := hb5.size
    have os0_5 := own_kept os0_4 hb5
    have og0_5 := own_kept og0_4 hb5
    clear hb5 HB4 os0_4 og0_4
    go_wp2_with fail
    refine (impl_any a0 _  hx0).mono ?_
    rintro e w6 ⟨h0, rfl, oh0_6, hb6⟩
    have HB6 := below_step HB5 hW5 hb6
    have hW6 := HB6.size
    have hM6 := hb6.size
    have os0_6 := own_kept os0_5 hb6
    have og0_6 := own_kept og0_5 hb6
    clear hb6 HB5 os0_5 og0_5
    go_wp2_with fail
    refine (eq_true h0 s0 ((ordR a0.data.toList).1) _ (own_reads oh0_6) (own_reads os0_6) hR0).mono ?_
    rintro e w7 ⟨rfl, hb7⟩
    have HB7 := below_step HB6 hW6 hb7
    have hW7 := HB7.size
    have hM7 := hb7.size
    have os0_7 := own_kept os0_6 hb7
    have og0_7 := own_kept og0_6 hb7
    have oh0_7 := own_kept oh0_6 hb7
    clear hb7 HB6 os0_6 og0_6 oh0_6
    go_wp2_with fail
    refine (held_own g0 ((ordR a0.data.toList).1).length _ _ _ og0_7 hR0).mono ?_
    rintro e w8 ⟨rfl, hb8⟩
    have HB8 := below_step HB7 hW7 hb8
    have hW8 := HB8.size
    have hM8 := hb8.size
    have os0_8 := own_kept os0_7 hb8
    have og0_8 := own_kept og0_7 hb8
    have oh0_8 := own_kept oh0_7 hb8
    clear hb8 HB7 os0_7 og0_7 oh0_7
    go_wp2_with fail
    go_ret
    exact ⟨rfl, HB8⟩

set_option maxRecDepth 100000 in
theorem lifted (os : Os) (started : os.Started) (H : Type) (enc : TypeId × Value → H) :
    ReturnsInHanded {} Try.checked os 4 .any (Rows.fnExactOrderGetSpec.pre6 enc Try.prog Try.f4 Rows.fnExactOrderGetRow.domain false) (Rows.fnExactOrderGetSpec.post enc Try.prog Try.f4 false true false false) := by
  refine returnsInHanded_of_change (C := Try.checked) own started (by kernel_rfl) Try.func4
    (ChangeSpec.witness6 (enc := enc) (C := Try.checked) false ⟨#[], #[.string ByteArray.empty], []⟩ 8 (by kernel_rfl) (by kernel_rfl) (by kernel_rfl) (by kernel_rfl)) ?_
  intro W base args ds gs before hval0 hW hcnd _
  have hval : ∀ (j : Nat) t v, Try.f4.params[j]? = some t → args[j]? = some v → Value.okWide Try.prog W .any base t v := hval0
  have hW' := hW
  obtain ⟨p, q, hA0, hV, rfl, hfz, hnd⟩ := hW
  have hA : DataW.TrodAll enc Try.prog W 0 (fun _ => true) true Try.f4.params.toList args.toList ds p := hA0
  rw [Try.params4] at hA hval
  obtain ⟨v0, vs0, d0, ds0, p0, q0, hargs, rfl, rfl, h0, r0⟩ := trodAll_cons hA
  obtain ⟨rfl, rfl, rfl⟩ := trodAll_nil r0
  obtain rfl : args = #[v0] := by cases args; simp_all
  obtain ⟨rfl, rfl⟩ := trodVars_none hV
  obtain ⟨a0, rfl, rfl, rfl, w0⟩ := open_string Try.underlying9 (hval 0 9 v0 rfl rfl) h0
  clear hA0 hval0
  refine (walk a0 W w0).mono fun e W' ⟨he, bel⟩ => ?_
  subst he
  exact ⟨_, rfl, _, _, _, [], _, [], hW', trodAll_mk1 (shut_bool Try.underlying4 _), (trodAll_cons_mk (shut_string Try.underlying9 w0) trodAll_mk0), rfl, bel.frame _, fun h => by cases h⟩

theorem over : Rows.fnExactOrderGetRow.holds Try.pinned (OpenSpec.ofChange Rows.fnExactOrderGetSpec) :=
  OpenClaim.holds_of_wide 4 Try.f4 rfl rfl rfl rfl rfl rfl rfl ⟨rfl, rfl, rfl, rfl, rfl⟩ rfl rfl rfl rfl rfl (by kernel_rfl) Try.func4 (by kernel_rfl)
    (of_decide_eq_true (by kernel_rfl)) (by unfold Func.isWrapper; first | (rw [if_pos (by decide +kernel)]; kernel_rfl) | (rw [if_neg (by decide +kernel)]; exact ⟨rfl, rfl⟩))
    (fun os started H enc _ => lifted os started H enc)

theorem proved : Rows.FnExactOrderGetSaid := over
end Go.Proofs.Ytnlkgghpebaenaa.fnExactOrderGet
