/- Proved: of drawn fields and a field FieldsPut answers as its model; where it may stand it has its text, it is new just if it was not there, and without it all is as it was. No condition. -/
import Derived.Test.YtfnbjjcelncliaaQxF
import Derived.Test.YtfnbjjcelncliaaPrT
import Derived.Test.YtfnbjjcelncliaaDrH
import Derived.Test.YtfnbjjcelncliaaPrP
import Derived.Test.YtfnbjjcelncliaaPrJ
import Derived.Test.YtfnbjjcelncliaaPrDr
import Derived.ProofKit
import Derived.OpenShut
import Derived.ShutString
import Derived.ChangeOld
import Derived.Below
import Derived.Deep.RegionWith
namespace Go.Proofs.Ytfnbjjcelncliaa.fnFieldsPut
open Go.ChangeShapes Go.WideShapes Go.ChangeAt Go.RowKit
open Go.ChangeMaps (open_string shut_string)
set_option linter.unusedVariables false

theorem own : ownKnob Try.prog.godebug = none := by kernel_rfl
theorem laidOut : laidOutB Try.prog = true := by kernel_rfl
theorem isLen (w : World) (v : Value) (zs : List Int) (h : IsBytes w v zs) : ∃ ao cap, v = .slice ao zs.length cap ∧ zs.length ≤ 9223372036854775807 := by
  obtain ⟨ao, cap, h1, h2, h3, _⟩ := h
  unfold maxLen at h3; exact ⟨ao, cap, h1, by omega⟩
theorem step {B : Nat} {a w w' : World} (h : Below B a w) (hB : B ≤ a.heap.size) (hb : Below w.heap.size w w') : Below B a w' := h.trans (hb.mono (Nat.le_trans hB h.size))
theorem neB (b : Bool) : (b != b) = false := by cases b <;> rfl
theorem eqB (b : Bool) : (b == b) = true := by cases b <;> rfl
theorem neS (s : ByteArray) : (!s.toList == s.toList) = false := by simp
theorem eqS (s : ByteArray) : (s.toList == s.toList) = true := by simp
theorem ip_any (v : Value) (l : List (ByteArray × ByteArray)) (y : ByteArray × ByteArray) (w : World) (hr : PrReads w v l) (hlen : l.length ≤ 1048576) :
    Calls Try.prog 15 #[v, .agg #[.string y.1, .string y.2]] w fun e w' => ∃ x, e = .returned (.tuple #[x, .bool (prPutF l y), .bool (prPutB l y)]) ∧ PrOwns w' w.heap.size x (prPutR l y) ∧ Below w.heap.size w w' := by
  have := implFieldsPut_any v l y w hr hlen
  rw [pr_ptF, pr_ptB, pr_ptR] at this
  exact this
set_option maxHeartbeats 16000000 in
theorem walk (v0 : Value) (zs : List Int) (w : World) (h : IsBytes w v0 zs) :
    Calls Try.prog 4 #[v0] w fun e w' => e = .returned (.bool true) ∧ Below w.heap.size w w' := by
  obtain ⟨ao, cap, rfl, hlm⟩ := isLen w v0 zs h
  rcases Int.lt_or_le (1048576 : Int) (zs.length : Int) with h0 | h0
  · go_enter Try.func4, Try.ntmps4
    go_wp2_with fail
    go_ret
    exact ⟨rfl, Below.refl _ _⟩
  go_enter Try.func4, Try.ntmps4
  go_wp2_with fail
  refine (drawFPut_any _ zs _ h).mono ?_
  rintro e w0 ⟨x, O, s, n, rfl, ho1, hO, hB1⟩
  have hr1 := ownsR_reads prC_len ho1
  clear h ho1
  obtain ⟨ax, cx, rfl⟩ := readsR_shape hr1
  obtain ⟨w1, hW1⟩ : ∃ w1, w0.alloc (.cells #[.string s, .string n] 38) = w1 := ⟨_, rfl⟩
  have hb1 : Below w0.heap.size w0 w1 := by rw [← hW1]; exact (Below.refl _ _).alloc (Nat.le_refl _) _
  have rO1 := readsR_kept hr1 hb1
  have HB1 := step hB1 (Nat.le_refl _) hb1
  have hlt1 : w0.heap.size < w1.heap.size := by rw [← hW1]; simp
  have k0_1 : w1.cell? ⟨w0.heap.size, 0, none⟩ = some (.string s) := by rw [← hW1, cell_of_row _ _ _ _ _ _ (heap_alloc_new w0 _)]; rfl
  have k1_1 : w1.cell? ⟨w0.heap.size, 1, none⟩ = some (.string n) := by rw [← hW1, cell_of_row _ _ _ _ _ _ (heap_alloc_new w0 _)]; rfl
  have hPl := pr_put_len (y := (s, n)) hO
  have hneF := neB (prPutF O (s, n))
  have heqF := eqB (prPutF O (s, n))
  have hneK := neB (prOkB O)
  have heqK := eqB (prOkB O)
  go_wp2_with fail
  clear hr1 hB1 hb1 hW1
  refine (ip_any _ O (s, n) _ rO1 (by omega)).mono ?_
  rintro e w2 ⟨g, rfl, og2, hb2⟩
  have HB2 := step HB1 (Nat.le_refl _) hb2
  have rO2 := readsR_kept rO1 hb2
  have rg2 := ownsR_reads prC_len og2
  have z2 := hb2.size
  have k0_2 := hb2.cell (p := ⟨w0.heap.size, 0, none⟩) (by show w0.heap.size < _; omega) |>.trans k0_1
  have k1_2 := hb2.cell (p := ⟨w0.heap.size, 1, none⟩) (by show w0.heap.size < _; omega) |>.trans k1_1
  clear hb2 HB1 rO1 og2 k0_1 k1_1
  go_wp2_with fail
  refine (specFieldsPut_any _ O (s, n) _ rO2 (by omega)).mono ?_
  rintro e w3 ⟨z, rfl, oz3, hb3⟩
  have HB3 := step HB2 (Nat.le_refl _) hb3
  have rO3 := readsR_kept rO2 hb3
  have rg3 := readsR_kept rg2 hb3
  have rz3 := ownsR_reads prC_len oz3
  have z3 := hb3.size
  have k0_3 := hb3.cell (p := ⟨w0.heap.size, 0, none⟩) (by show w0.heap.size < _; omega) |>.trans k0_2
  have k1_3 := hb3.cell (p := ⟨w0.heap.size, 1, none⟩) (by show w0.heap.size < _; omega) |>.trans k1_2
  clear hb3 HB2 rO2 rg2 oz3 k0_2 k1_2
  obtain ⟨ag, cg, hgv⟩ := readsR_shape rg3
  subst hgv
  have hFa := @pr_put_facts O (s, n)
  have HFA : Hid (prPutB O (s, n) = true → _) := hFa
  clear hFa
  generalize hGR : prPutR O (s, n) = R at *
  generalize prPutF O (s, n) = F at *
  clear hGR
  cases hB : prPutB O (s, n) with
  | false =>
    clear HFA hB
    go_wp2_with fail
    refine (qxF_true _ _ R _ rg3 rz3 (by omega)).mono ?_
    rintro e w4 ⟨rfl, hb4⟩
    have HB4 := step HB3 (Nat.le_refl _) hb4
    have rO4 := readsR_kept rO3 hb4
    have rg4 := readsR_kept rg3 hb4
    have rz4 := readsR_kept rz3 hb4
    have z4 := hb4.size
    have k0_4 := hb4.cell (p := ⟨w0.heap.size, 0, none⟩) (by show w0.heap.size < _; omega) |>.trans k0_3
    have k1_4 := hb4.cell (p := ⟨w0.heap.size, 1, none⟩) (by show w0.heap.size < _; omega) |>.trans k1_3
    clear hb4 HB3 rO3 rg3 rz3 k0_3 k1_3
    go_wp2_with fail
    refine (implFieldsOk_any _ O _ rO4 (by omega)).mono ?_
    rintro e w5 ⟨rfl, hb5⟩
    have HB5 := step HB4 (Nat.le_refl _) hb5
    have rO5 := readsR_kept rO4 hb5
    have rg5 := readsR_kept rg4 hb5
    have rz5 := readsR_kept rz4 hb5
    have z5 := hb5.size
    have k0_5 := hb5.cell (p := ⟨w0.heap.size, 0, none⟩) (by show w0.heap.size < _; omega) |>.trans k0_4
    have k1_5 := hb5.cell (p := ⟨w0.heap.size, 1, none⟩) (by show w0.heap.size < _; omega) |>.trans k1_4
    clear hb5 HB4 rO4 rg4 rz4 k0_4 k1_4
    go_wp2_with fail
    refine (specFieldsOk_any _ O _ rO5 (by omega)).mono ?_
    rintro e w6 ⟨rfl, hb6⟩
    have HB6 := step HB5 (Nat.le_refl _) hb6
    have rO6 := readsR_kept rO5 hb6
    have rg6 := readsR_kept rg5 hb6
    have rz6 := readsR_kept rz5 hb6
    have z6 := hb6.size
    have k0_6 := hb6.cell (p := ⟨w0.heap.size, 0, none⟩) (by show w0.heap.size < _; omega) |>.trans k0_5
    have k1_6 := hb6.cell (p := ⟨w0.heap.size, 1, none⟩) (by show w0.heap.size < _; omega) |>.trans k1_5
    clear hb6 HB5 rO5 rg5 rz5 k0_5 k1_5
    go_wp2_with fail
    refine (qxF_true _ _ R _ rg6 rz6 (by omega)).mono ?_
    rintro e w7 ⟨rfl, hb7⟩
    have HB7 := step HB6 (Nat.le_refl _) hb7
    have rO7 := readsR_kept rO6 hb7
    have rg7 := readsR_kept rg6 hb7
    have rz7 := readsR_kept rz6 hb7
    have z7 := hb7.size
    have k0_7 := hb7.cell (p := ⟨w0.heap.size, 0, none⟩) (by show w0.heap.size < _; omega) |>.trans k0_6
    have k1_7 := hb7.cell (p := ⟨w0.heap.size, 1, none⟩) (by show w0.heap.size < _; omega) |>.trans k1_6
    clear hb7 HB6 rO6 rg6 rz6 k0_6 k1_6
    go_wp2_with fail
    refine (implFieldsOk_any _ O _ rO7 (by omega)).mono ?_
    rintro e w8 ⟨rfl, hb8⟩
    have HB8 := step HB7 (Nat.le_refl _) hb8
    have rO8 := readsR_kept rO7 hb8
    have rg8 := readsR_kept rg7 hb8
    have rz8 := readsR_kept rz7 hb8
    have z8 := hb8.size
    have k0_8 := hb8.cell (p := ⟨w0.heap.size, 0, none⟩) (by show w0.heap.size < _; omega) |>.trans k0_7
    have k1_8 := hb8.cell (p := ⟨w0.heap.size, 1, none⟩) (by show w0.heap.size < _; omega) |>.trans k1_7
    clear hb8 HB7 rO7 rg7 rz7 k0_7 k1_7
    go_wp2_with fail
    refine (specFieldsOk_any _ O _ rO8 (by omega)).mono ?_
    rintro e w9 ⟨rfl, hb9⟩
    have HB9 := step HB8 (Nat.le_refl _) hb9
    have rO9 := readsR_kept rO8 hb9
    have rg9 := readsR_kept rg8 hb9
    have rz9 := readsR_kept rz8 hb9
    have z9 := hb9.size
    have k0_9 := hb9.cell (p := ⟨w0.heap.size, 0, none⟩) (by show w0.heap.size < _; omega) |>.trans k0_8
    have k1_9 := hb9.cell (p := ⟨w0.heap.size, 1, none⟩) (by show w0.heap.size < _; omega) |>.trans k1_8
    clear hb9 HB8 rO8 rg8 rz8 k0_8 k1_8
    go_wp2_with fail
    go_ret
    exact ⟨rfl, HB9⟩
  | true =>
    obtain ⟨q1, q2, q3, q4, q5, q6, q7⟩ := HFA.out hB
    clear HFA hB
    go_wp2_with fail
    refine (qxF_true _ _ R _ rg3 rz3 (by omega)).mono ?_
    rintro e w4 ⟨rfl, hb4⟩
    have HB4 := step HB3 (Nat.le_refl _) hb4
    have rO4 := readsR_kept rO3 hb4
    have rg4 := readsR_kept rg3 hb4
    have rz4 := readsR_kept rz3 hb4
    have z4 := hb4.size
    have k0_4 := hb4.cell (p := ⟨w0.heap.size, 0, none⟩) (by show w0.heap.size < _; omega) |>.trans k0_3
    have k1_4 := hb4.cell (p := ⟨w0.heap.size, 1, none⟩) (by show w0.heap.size < _; omega) |>.trans k1_3
    clear hb4 HB3 rO3 rg3 rz3 k0_3 k1_3
    go_wp2_with fail
    refine (implFieldsOk_any _ O _ rO4 (by omega)).mono ?_
    rintro e w5 ⟨rfl, hb5⟩
    have HB5 := step HB4 (Nat.le_refl _) hb5
    have rO5 := readsR_kept rO4 hb5
    have rg5 := readsR_kept rg4 hb5
    have rz5 := readsR_kept rz4 hb5
    have z5 := hb5.size
    have k0_5 := hb5.cell (p := ⟨w0.heap.size, 0, none⟩) (by show w0.heap.size < _; omega) |>.trans k0_4
    have k1_5 := hb5.cell (p := ⟨w0.heap.size, 1, none⟩) (by show w0.heap.size < _; omega) |>.trans k1_4
    clear hb5 HB4 rO4 rg4 rz4 k0_4 k1_4
    go_wp2_with fail
    refine (specFieldsOk_any _ O _ rO5 (by omega)).mono ?_
    rintro e w6 ⟨rfl, hb6⟩
    have HB6 := step HB5 (Nat.le_refl _) hb6
    have rO6 := readsR_kept rO5 hb6
    have rg6 := readsR_kept rg5 hb6
    have rz6 := readsR_kept rz5 hb6
    have z6 := hb6.size
    have k0_6 := hb6.cell (p := ⟨w0.heap.size, 0, none⟩) (by show w0.heap.size < _; omega) |>.trans k0_5
    have k1_6 := hb6.cell (p := ⟨w0.heap.size, 1, none⟩) (by show w0.heap.size < _; omega) |>.trans k1_5
    clear hb6 HB5 rO5 rg5 rz5 k0_5 k1_5
    go_wp2_with fail
    refine (implFieldsGet_any _ R s _ rg6 (by omega)).mono ?_
    rintro e w7 ⟨rfl, hb7⟩
    have HB7 := step HB6 (Nat.le_refl _) hb7
    have rO7 := readsR_kept rO6 hb7
    have rg7 := readsR_kept rg6 hb7
    have rz7 := readsR_kept rz6 hb7
    have z7 := hb7.size
    have k0_7 := hb7.cell (p := ⟨w0.heap.size, 0, none⟩) (by show w0.heap.size < _; omega) |>.trans k0_6
    have k1_7 := hb7.cell (p := ⟨w0.heap.size, 1, none⟩) (by show w0.heap.size < _; omega) |>.trans k1_6
    clear hb7 HB6 rO6 rg6 rz6 k0_6 k1_6
    rw [show prGetS R s = n from q4, show prGetB R s = true from q3]
    go_wp2_with fail
    refine (implFieldsGet_any _ O s _ rO7 (by omega)).mono ?_
    rintro e w8 ⟨rfl, hb8⟩
    have HB8 := step HB7 (Nat.le_refl _) hb8
    have rO8 := readsR_kept rO7 hb8
    have rg8 := readsR_kept rg7 hb8
    have rz8 := readsR_kept rz7 hb8
    have z8 := hb8.size
    have k0_8 := hb8.cell (p := ⟨w0.heap.size, 0, none⟩) (by show w0.heap.size < _; omega) |>.trans k0_7
    have k1_8 := hb8.cell (p := ⟨w0.heap.size, 1, none⟩) (by show w0.heap.size < _; omega) |>.trans k1_7
    clear hb8 HB7 rO7 rg7 rz7 k0_7 k1_7
    go_wp2_with fail
    refine (implFieldsDrop_any _ R s _ rg8 (by omega)).mono ?_
    rintro e w9 ⟨d, rfl, od9, hb9⟩
    have HB9 := step HB8 (Nat.le_refl _) hb9
    have rO9 := readsR_kept rO8 hb9
    have rg9 := readsR_kept rg8 hb9
    have rz9 := readsR_kept rz8 hb9
    have rd9 := ownsR_reads prC_len od9
    have z9 := hb9.size
    have k0_9 := hb9.cell (p := ⟨w0.heap.size, 0, none⟩) (by show w0.heap.size < _; omega) |>.trans k0_8
    have k1_9 := hb9.cell (p := ⟨w0.heap.size, 1, none⟩) (by show w0.heap.size < _; omega) |>.trans k1_8
    clear hb9 HB8 rO8 rg8 rz8 od9 k0_8 k1_8
    go_wp2_with fail
    refine (implFieldsDrop_any _ O s _ rO9 (by omega)).mono ?_
    rintro e w10 ⟨e2, rfl, oe10, hb10⟩
    have HB10 := step HB9 (Nat.le_refl _) hb10
    have rO10 := readsR_kept rO9 hb10
    have rg10 := readsR_kept rg9 hb10
    have rz10 := readsR_kept rz9 hb10
    have rd10 := readsR_kept rd9 hb10
    have re10 := ownsR_reads prC_len oe10
    have z10 := hb10.size
    have k0_10 := hb10.cell (p := ⟨w0.heap.size, 0, none⟩) (by show w0.heap.size < _; omega) |>.trans k0_9
    have k1_10 := hb10.cell (p := ⟨w0.heap.size, 1, none⟩) (by show w0.heap.size < _; omega) |>.trans k1_9
    clear hb10 HB9 rO9 rg9 rz9 rd9 oe10 k0_9 k1_9
    rw [show prDropR R s = prDropR O s from q6] at rd10
    have hDl := pr_drop_len O s (by omega)
    have q5' : F = (!prGetB O s) := q5
    subst q5'
    have hEF := eqB (!prGetB O s)
    have hES := eqS n
    go_wp2_with fail
    refine (implFieldsOk_any _ R _ rg10 (by omega)).mono ?_
    rintro e w11 ⟨he, hb11⟩
    rw [q2] at he
    subst he
    have HB11 := step HB10 (Nat.le_refl _) hb11
    have rO11 := readsR_kept rO10 hb11
    have rg11 := readsR_kept rg10 hb11
    have rz11 := readsR_kept rz10 hb11
    have rd11 := readsR_kept rd10 hb11
    have re11 := readsR_kept re10 hb11
    have z11 := hb11.size
    have k0_11 := hb11.cell (p := ⟨w0.heap.size, 0, none⟩) (by show w0.heap.size < _; omega) |>.trans k0_10
    have k1_11 := hb11.cell (p := ⟨w0.heap.size, 1, none⟩) (by show w0.heap.size < _; omega) |>.trans k1_10
    clear hb11 HB10 rO10 rg10 rz10 rd10 re10 k0_10 k1_10
    go_wp2_with fail
    refine (qxF_true _ _ (prDropR O s) _ rd11 re11 (by omega)).mono ?_
    rintro e w12 ⟨rfl, hb12⟩
    have HB12 := step HB11 (Nat.le_refl _) hb12
    have rO12 := readsR_kept rO11 hb12
    have rg12 := readsR_kept rg11 hb12
    have rz12 := readsR_kept rz11 hb12
    have rd12 := readsR_kept rd11 hb12
    have re12 := readsR_kept re11 hb12
    have z12 := hb12.size
    have k0_12 := hb12.cell (p := ⟨w0.heap.size, 0, none⟩) (by show w0.heap.size < _; omega) |>.trans k0_11
    have k1_12 := hb12.cell (p := ⟨w0.heap.size, 1, none⟩) (by show w0.heap.size < _; omega) |>.trans k1_11
    clear hb12 HB11 rO11 rg11 rz11 rd11 re11 k0_11 k1_11
    go_wp2_with fail
    go_ret
    exact ⟨rfl, HB12⟩
set_option maxRecDepth 100000 in
theorem lifted (os : Os) (started : os.Started) (H : Type) (enc : TypeId × Value → H) :
    ReturnsInHanded {} Try.checked os 4 .any (Rows.fnFieldsPutSpec.pre6 enc Try.prog Try.f4 Rows.fnFieldsPutRow.domain false) (Rows.fnFieldsPutSpec.post enc Try.prog Try.f4 false true false false) := by
  refine returnsInHanded_of_change (C := Try.checked) own started (by kernel_rfl) Try.func4
    (ChangeSpec.witness6 (enc := enc) (C := Try.checked) false ⟨#[], #[.slice none 0 0], []⟩ 8 (by kernel_rfl) (by kernel_rfl) (by kernel_rfl) (by kernel_rfl)) ?_
  intro W base args ds gs before hval0 hW hcnd _
  have hval : ∀ (j : Nat) t v, Try.f4.params[j]? = some t → args[j]? = some v → Value.okWide Try.prog W .any base t v := hval0
  have hW' := hW
  obtain ⟨p, q, hA0, hV, rfl, hfz, hnd⟩ := hW
  have hA : DataW.TrodAll enc Try.prog W 0 (fun _ => true) true Try.f4.params.toList args.toList ds p := hA0
  rw [Try.params4] at hA hval
  obtain ⟨v0, vs0, d0, ds0, p0, q0, hargs, rfl, rfl, h0, r0⟩ := trodAll_cons hA
  obtain ⟨rfl, rfl, rfl⟩ := trodAll_nil r0
  obtain rfl : args = #[v0] := by cases args; simp_all
  obtain ⟨rfl, rfl⟩ := trodVars_none hV
  obtain ⟨a0, len0, cap0, rfl⟩ := okWide_slice Try.underlying22 (hval 0 22 v0 rfl rfl)
  have k0 := h0
  have lt0 : ∀ x ∈ p0, x.block < W.heap.size := by obtain ⟨m, hm⟩ := k0; exact DataW.trod_lt m _ _ _ hm
  obtain ⟨z0, w0⟩ : ∃ zs, IsBytes W (.slice a0 len0 cap0) zs := by
    obtain ⟨fuel, hf⟩ := h0
    rcases open_ints Try.underlying22 Try.underlying5 (by kernel_rfl) hf with ⟨hcs, _⟩ | ⟨x, ln, cp, zs, hcs, _, hl, hm, hz, _, hcell, hwz⟩
    · exact bytes_of_none (by simpa [Value.cells] using hcs)
    · exact bytes_of_some (by simpa [Value.cells] using hcs) hl hm (by simpa using hz) hcell hwz
  clear hA0 hval0
  refine (walk (.slice a0 len0 cap0) z0 W w0).mono fun e W' ⟨he, bel⟩ => ?_
  subst he
  exact ⟨_, rfl, _, _, _, [], _, [], hW', trodAll_mk1 (shut_bool Try.underlying4 _), (trodAll_cons_mk (Below.trod laidOut (by kernel_rfl) (of_decide_eq_true (by kernel_rfl)) k0 bel lt0) trodAll_mk0), rfl, bel.frame _, fun h => by cases h⟩

theorem over : Rows.fnFieldsPutRow.holds Try.pinned (OpenSpec.ofChange Rows.fnFieldsPutSpec) :=
  OpenClaim.holds_of_wide 4 Try.f4 rfl rfl rfl rfl rfl rfl rfl ⟨rfl, rfl, rfl, rfl, rfl⟩ rfl rfl rfl rfl rfl (by kernel_rfl) Try.func4 (by kernel_rfl)
    (of_decide_eq_true (by kernel_rfl)) (by unfold Func.isWrapper; first | (rw [if_pos (by decide +kernel)]; kernel_rfl) | (rw [if_neg (by decide +kernel)]; exact ⟨rfl, rfl⟩))
    (fun os started H enc _ => lifted os started H enc)

theorem proved : Rows.FnFieldsPutSaid := over
end Go.Proofs.Ytfnbjjcelncliaa.fnFieldsPut
