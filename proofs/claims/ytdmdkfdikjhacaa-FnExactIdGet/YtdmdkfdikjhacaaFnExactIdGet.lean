/- Proved: at every text IdGet answers as its model, the id and the bool. No condition. -/
import Derived.Test.YtdmdkfdikjhacaaIdH
import Derived.ProofKit
import Derived.OpenShut
import Derived.ShutString
import Derived.ChangeOld
import Derived.Below
namespace Go.Proofs.Ytdmdkfdikjhacaa.fnExactIdGet
open Go.ChangeShapes Go.WideShapes Go.ChangeAt Go.RowKit
open Go.ChangeMaps (open_string shut_string)
open num
set_option linter.unusedVariables false

theorem own : ownKnob Try.prog.godebug = none := by kernel_rfl
theorem laidOut : laidOutB Try.prog = true := by kernel_rfl

/-- what both answer -/
theorem both (s : ByteArray) (hs : s.size ≤ maxLen) : ∃ (x : Int × Int) (b : Bool), (∀ w, Calls Try.prog 8 #[.string s] w fun e w' => e = .returned (.tuple #[.agg #[.int .i64 x.1, .int .i64 x.2], .bool b]) ∧ Below w.heap.size w w') ∧
    (∀ w, Calls Try.prog 9 #[.string s] w fun e w' => e = .returned (.tuple #[.agg #[.int .i64 x.1, .int .i64 x.2], .bool b]) ∧ Below w.heap.size w w') := by
  have hat : ∀ i (hi : i < s.size), s.data.toList[i]? = some s[i] := fun i hi => by rw [List.getElem?_eq_getElem (by simpa using hi)]; rfl
  have h45 : ∀ i (hi : i < s.size), s.data.toList[i]? ≠ some 45 → (((s[i].toNat : Nat) : Int) == 45) = false := fun i hi h => by
    rw [beq_eq_false_iff_ne]
    intro e
    apply h
    rw [hat i hi, Option.some.injEq, ← UInt8.toNat_inj]
    have : (45 : UInt8).toNat = 45 := rfl
    omega
  have hge := Lib.indexByte_ge s.data.toList 45
  rcases Int.lt_or_le (Lib.indexByte s.data.toList 45) 0 with h | h
  · have hk : Lib.indexByte s.data.toList 45 = -1 := by omega
    exact ⟨(0, 0), false, fun w => specIdGet_none s w (fun i hi => h45 i hi (Lib.indexByte_none hk i)) hs, fun w => implIdGet_none s w hk hs⟩
  · obtain ⟨k, hk⟩ := Int.eq_ofNat_of_zero_le h
    have hx := Lib.indexByte_some hk
    have hlt : k < s.size := by
      have := (List.getElem?_eq_some_iff.1 hx.1).1
      simpa using this
    have hy : (((s[k].toNat : Nat) : Int) == 45) = true := by
      have := hx.1
      rw [hat k hlt, Option.some.injEq] at this
      rw [this]; rfl
    exact ⟨(onlyIf (getB s k) (figs (preL s k)), onlyIf (getB s k) (figs (sufL s k))), getB s k, fun w => specIdGet_some s k w (fun i hi hik => h45 i hi (hx.2 i hik)) hlt hy hs, fun w => implIdGet_some s k w hk hlt hs⟩
theorem eqId_same (x : Int × Int) (w : World) : Calls Try.prog 10 #[.agg #[.int .i64 x.1, .int .i64 x.2], .agg #[.int .i64 x.1, .int .i64 x.2]] w fun e w' => e = .returned (.bool true) ∧ Below w.heap.size w w' :=
  (eqId_any x x w).mono fun e w' h => ⟨h.1.trans (by rw [decide_eq_true rfl]), h.2⟩

set_option maxHeartbeats 4000000 in
theorem walk (a0 : ByteArray) (w : World) (w0 : a0.size ≤ maxLen) :
    Calls Try.prog 4 #[.string a0] w fun e w' => e = .returned (.bool true) ∧ Below w.heap.size w w' := by
  obtain ⟨x, b, hs, hi⟩ := both a0 w0
  have HS : Hid (∀ w, Calls Try.prog 8 #[.string a0] w fun e w' => e = .returned (.tuple #[.agg #[.int .i64 x.1, .int .i64 x.2], .bool b]) ∧ Below w.heap.size w w') := hs
  have HI : Hid (∀ w, Calls Try.prog 9 #[.string a0] w fun e w' => e = .returned (.tuple #[.agg #[.int .i64 x.1, .int .i64 x.2], .bool b]) ∧ Below w.heap.size w w') := hi
  clear hs hi
  have wg := w0
  unfold maxLen at wg
  rcases Int.lt_or_le (1048576 : Int) (a0.size : Int) with hx | hx
  · go_enter Try.func4, Try.ntmps4
    go_wp2_with fail
    go_ret
    exact ⟨rfl, Below.refl _ _⟩
  · have HB0 := Below.refl w.heap.size w
    go_enter Try.func4, Try.ntmps4
    go_wp2_with fail
    refine (HS.out _).mono ?_
    rintro e w1 ⟨rfl, hb⟩
    have hB1 := HB0.trans hb
    clear hb HB0
    go_wp2_with fail
    have S2 : Hid ((w1.alloc (.cells #[.int .i64 x.1, .int .i64 x.2] 25)).heap[w1.heap.size]? = some (.cells #[.int .i64 x.1, .int .i64 x.2] 25 (0, 0))) := heap_alloc_new _ _
    have Slt : w1.heap.size < (w1.alloc (.cells #[.int .i64 x.1, .int .i64 x.2] 25)).heap.size := by simp
    have hB2 := hB1.trans (((Below.refl _ w1).alloc (Nat.le_refl _) (.cells #[.int .i64 x.1, .int .i64 x.2] 25)).mono hB1.size)
    obtain ⟨w2, hW⟩ : ∃ W, w1.alloc (.cells #[.int .i64 x.1, .int .i64 x.2] 25) = W := ⟨_, rfl⟩
    rw [hW] at S2 Slt hB2 ⊢
    clear hW hB1
    refine (HI.out _).mono ?_
    rintro e w3 ⟨rfl, hb⟩
    have S3 : Hid _ := (hb.block w1.heap.size Slt).trans S2.out
    have Slt3 := Nat.lt_of_lt_of_le Slt hb.size
    have hB3 := hB2.trans (hb.mono hB2.size)
    clear hb S2 Slt hB2
    have HN : Hid ((w3.alloc (.cells #[.int .i64 x.1, .int .i64 x.2] 25)).heap[w3.heap.size]? = some (.cells #[.int .i64 x.1, .int .i64 x.2] 25 (0, 0))) := heap_alloc_new _ _
    have hB4 := hB3.trans (((Below.refl _ w3).alloc (Nat.le_refl _) (.cells #[.int .i64 x.1, .int .i64 x.2] 25)).mono hB3.size)
    have hc := res_cells S3.out
    have hc0 := hc.1
    have hc1 := hc.2
    have hd := res_cells ((Below.heap_alloc w3 (.cells #[.int .i64 x.1, .int .i64 x.2] 25) _ Slt3).trans S3.out)
    have hd0 := hd.1
    have hd1 := hd.2
    clear hc hd
    have hbb : (b != b) = false := by simp
    go_wp2_with fail
    refine (eqId_same x _).mono ?_
    rintro e w5 ⟨rfl, hb⟩
    go_wp2_with fail
    go_ret
    exact ⟨rfl, hB4.trans (hb.mono hB4.size)⟩

set_option maxRecDepth 100000 in
theorem lifted (os : Os) (started : os.Started) (H : Type) (enc : TypeId × Value → H) :
    ReturnsInHanded {} Try.checked os 4 .any (Rows.fnExactIdGetSpec.pre6 enc Try.prog Try.f4 Rows.fnExactIdGetRow.domain false) (Rows.fnExactIdGetSpec.post enc Try.prog Try.f4 false true false false) := by
  refine returnsInHanded_of_change (C := Try.checked) own started (by kernel_rfl) Try.func4
    (ChangeSpec.witness6 (enc := enc) (C := Try.checked) false ⟨#[], #[.string ByteArray.empty], []⟩ 8 (by kernel_rfl) (by kernel_rfl) (by kernel_rfl) (by kernel_rfl)) ?_
  intro W base args ds gs before hval0 hW hcnd _
  have hval : ∀ (j : Nat) t v, Try.f4.params[j]? = some t → args[j]? = some v → Value.okWide Try.prog W .any base t v := hval0
  have hW' := hW
  obtain ⟨p, q, hA0, hV, rfl, hfz, hnd⟩ := hW
  have hA : DataW.TrodAll enc Try.prog W 0 (fun _ => true) true Try.f4.params.toList args.toList ds p := hA0
  rw [Try.params4] at hA hval
  obtain ⟨v0, vs0, d0, ds0, p0, q0, hargs, rfl, rfl, h0, r0⟩ := trodAll_cons hA
  obtain ⟨rfl, rfl, rfl⟩ := trodAll_nil r0
  obtain rfl : args = #[v0] := by cases args; simp_all
  obtain ⟨rfl, rfl⟩ := trodVars_none hV
  obtain ⟨a0, rfl, rfl, rfl, w0⟩ := open_string Try.underlying9 (hval 0 9 v0 rfl rfl) h0
  clear hA0 hval0
  refine (walk a0 W w0).mono fun e W' ⟨he, bel⟩ => ?_
  subst he
  exact ⟨_, rfl, _, _, _, [], _, [], hW', trodAll_mk1 (shut_bool Try.underlying4 _), (trodAll_cons_mk (shut_string Try.underlying9 w0) trodAll_mk0), rfl, bel.frame _, fun h => by cases h⟩

theorem over : Rows.fnExactIdGetRow.holds Try.pinned (OpenSpec.ofChange Rows.fnExactIdGetSpec) :=
  OpenClaim.holds_of_wide 4 Try.f4 rfl rfl rfl rfl rfl rfl rfl ⟨rfl, rfl, rfl, rfl, rfl⟩ rfl rfl rfl rfl rfl (by kernel_rfl) Try.func4 (by kernel_rfl)
    (of_decide_eq_true (by kernel_rfl)) (by unfold Func.isWrapper; first | (rw [if_pos (by decide +kernel)]; kernel_rfl) | (rw [if_neg (by decide +kernel)]; exact ⟨rfl, rfl⟩))
    (fun os started H enc _ => lifted os started H enc)

theorem proved : Rows.FnExactIdGetSaid := over
end Go.Proofs.Ytdmdkfdikjhacaa.fnExactIdGet
