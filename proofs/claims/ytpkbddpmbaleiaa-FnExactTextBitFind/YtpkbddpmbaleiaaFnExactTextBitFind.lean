/- Proved: at every text and bit TextBitFind answers as its model. No condition. -/
import Derived.Test.YtpkbddpmbaleiaaWdF
import Derived.ProofKit
import Derived.OpenShut
import Derived.ShutString
import Derived.ChangeOld
import Derived.Below
namespace Go.Proofs.Ytpkbddpmbaleiaa.fnExactTextBitFind
open Go.ChangeShapes Go.WideShapes Go.ChangeAt Go.RowKit
open Go.ChangeMaps (open_string shut_string)
open wd
set_option linter.unusedVariables false

theorem own : ownKnob Try.prog.godebug = none := by kernel_rfl
theorem laidOut : laidOutB Try.prog = true := by kernel_rfl

theorem l1In_any (n a b : Int) (w : World) : Calls Try.prog 21 #[.int .i64 n, .int .i64 a, .int .i64 b] w fun e w' => e = .returned (.bool (decide (a ≤ n) && decide (n ≤ b))) ∧ w = w' := by
  by_cases h1 : a ≤ n
  · have HD : Hid (decide (a ≤ n) = true) := decide_eq_true h1
    go_enter Try.func21, Try.ntmps21
    go_wp2_with fail
    go_ret
    exact ⟨wret_b (by rw [HD.out, Bool.true_and]), rfl⟩
  · have HD : Hid (decide (a ≤ n) = false) := decide_eq_false h1
    go_enter Try.func21, Try.ntmps21
    go_wp2_with fail
    go_ret
    exact ⟨wret_b (by rw [HD.out, Bool.false_and]), rfl⟩

def okF (s : ByteArray) (b : Int) : Prop := s.size ≤ 40 ∧ s.size ≠ 0 ∧ 0 ≤ b ∧ b ≤ 1
theorem empty_eq {s : ByteArray} (h : s.size = 0) : (s.toList == []) = true := by
  rw [Lib.toList_data, beq_iff_eq]
  exact List.eq_nil_of_length_eq_zero (by simpa using h)
theorem empty_ne {s : ByteArray} (h0 : s.size ≠ 0) : (s.toList == []) = false := by
  rw [beq_eq_false_iff_ne]
  intro e
  have := congrArg List.length e
  rw [Lib.toList_data] at this
  have h2 : s.data.toList.length = s.size := by simp
  rw [h2] at this
  exact h0 this
theorem okF_cases {s : ByteArray} {b : Int} (h : ¬ okF s b) : s.size = 0 ∨ (s.size ≠ 0 ∧ 40 < s.size) ∨ (s.size ≠ 0 ∧ s.size ≤ 40 ∧ (decide (b = 0) || decide (b = 1)) = false ∧ (decide (0 ≤ b) && decide (b ≤ 1)) = false) := by
  by_cases h0 : s.size = 0
  · exact .inl h0
  · by_cases h1 : s.size ≤ 40
    · refine .inr (.inr ⟨h0, h1, ?_, ?_⟩)
      · rw [Bool.or_eq_false_iff]
        exact ⟨decide_eq_false (fun e => h ⟨h1, h0, by omega, by omega⟩), decide_eq_false (fun e => h ⟨h1, h0, by omega, by omega⟩)⟩
      · rw [Bool.and_eq_false_iff]
        by_cases hb : 0 ≤ b
        · exact .inr (decide_eq_false (fun e => h ⟨h1, h0, hb, e⟩))
        · exact .inl (decide_eq_false hb)
    · exact .inr (.inl ⟨h0, by omega⟩)
set_option maxRecDepth 100000 in
set_option maxHeartbeats 4000000 in
theorem implNo_any (s : ByteArray) (b : Int) (w : World) (h : ¬ okF s b) :
    Calls Try.prog 11 #[.string s, .int .i64 b] w fun e w' => e = .returned (.int .i64 (-1)) ∧ Below w.heap.size w w' := by
  have hB : Below w.heap.size w ((w.alloc (.cells #[.int .i64 b] 3)).alloc (.cells #[.int .i64 (-1)] 3)) := ((Below.refl _ w).alloc (Nat.le_refl _) _).alloc (by simp) _
  have HB : Hid _ := hB
  clear hB
  rcases okF_cases h with h0 | ⟨h0, h1⟩ | ⟨h0, h1, h2, _⟩
  · have e := empty_eq h0
    clear h h0
    go_enter Try.func11, Try.ntmps11
    go_wp2_with fail
    refine bodyPost_ret (v := .int .i64 (-1)) ?_ rfl ⟨rfl, HB.out⟩
    simp [results, Try.f11, go_sem]
  · have e := empty_ne h0
    have h40 : (40 : Int) < (s.size : Int) := by omega
    clear h h0 h1
    go_enter Try.func11, Try.ntmps11
    go_wp2_with fail
    refine bodyPost_ret (v := .int .i64 (-1)) ?_ rfl ⟨rfl, HB.out⟩
    simp [results, Try.f11, go_sem]
  · have e := empty_ne h0
    have hd40 : decide ((40 : Int) < (s.size : Int)) = false := decide_eq_false (by omega)
    clear h h0 h1
    go_enter Try.func11, Try.ntmps11
    go_wp2_with (go_at_call 22; refine (bitOk_any _ _).mono ?_; rw [h2]; rintro e w' ⟨rfl, rfl⟩)
    refine bodyPost_ret (v := .int .i64 (-1)) ?_ rfl ⟨rfl, HB.out⟩
    simp [results, Try.f11, go_sem]
set_option maxRecDepth 100000 in
set_option maxHeartbeats 4000000 in
theorem specNo_any (s : ByteArray) (b : Int) (w : World) (h : ¬ okF s b) :
    Calls Try.prog 10 #[.string s, .int .i64 b] w fun e w' => e = .returned (.int .i64 (-1)) ∧ w = w' := by
  rcases okF_cases h with h0 | ⟨h0, h1⟩ | ⟨h0, h1, _, h2⟩
  · have hd40 : decide ((40 : Int) < (s.size : Int)) = false := decide_eq_false (by omega)
    have e : ((s.size : Int) == 0) = true := by rw [h0]; rfl
    clear h h0
    go_enter Try.func10, Try.ntmps10
    go_wp2_with fail
    go_ret
    exact ⟨rfl, rfl⟩
  · have h40 : (40 : Int) < (s.size : Int) := by omega
    clear h h0 h1
    go_enter Try.func10, Try.ntmps10
    go_wp2_with fail
    go_ret
    exact ⟨rfl, rfl⟩
  · have e : ((s.size : Int) == 0) = false := by rw [beq_eq_false_iff_ne]; omega
    have hd40 : decide ((40 : Int) < (s.size : Int)) = false := decide_eq_false (by omega)
    clear h h0 h1
    go_enter Try.func10, Try.ntmps10
    go_wp2_with (go_at_call 21; refine (l1In_any _ _ _ _).mono ?_; rw [h2]; rintro e w' ⟨rfl, rfl⟩)
    go_ret
    exact ⟨rfl, rfl⟩
set_option maxRecDepth 100000 in
set_option maxHeartbeats 4000000 in
theorem specFind_any (s : ByteArray) (c : Nat) (hc : c = 0 ∨ c = 1) (hs : s.size ≤ 40) (h0 : s.size ≠ 0) (w : World) :
    Calls Try.prog 10 #[.string s, .int .i64 (c : Int)] w fun e w' => (∃ r, e = .returned (.int .i64 r) ∧ FindR s c r) ∧ w = w' := by
  have e : ((s.size : Int) == 0) = false := by rw [beq_eq_false_iff_ne]; omega
  have hd40 : decide ((40 : Int) < (s.size : Int)) = false := decide_eq_false (by omega)
  have h2 : (decide ((0 : Int) ≤ (c : Int)) && decide ((c : Int) ≤ 1)) = true := by rcases hc with rfl | rfl <;> decide
  have H0 : Hid (s.size ≠ 0) := h0
  clear h0
  go_enter Try.func10, Try.ntmps10
  go_wp2_with (go_at_call 21; refine (l1In_any _ _ _ _).mono ?_; rw [h2]; rintro e w' ⟨rfl, rfl⟩)
  clear h2 e hd40
  go_loopw [5] (fun i wr => ∃ j : Nat, j ≤ 8 * s.size ∧ i = .int .i64 (j : Int) ∧ Hid (∀ k, k < j → bit s k ≠ c) ∧ w = wr) (fun i _ => 8 * s.size - (intOf i).toNat)
  case atStart => exact ⟨0, Nat.zero_le _, rfl, fun k hk => by omega, rfl⟩
  case round =>
    obtain ⟨j, hj, rfl, hno, rfl⟩ := hrel
    by_cases hlt : j < 8 * s.size
    · have hi : (j : Int) < 8 * (s.size : Int) := by omega
      have hb : j ≤ 1000000000 := by omega
      by_cases hbit : bit s j = c
      · have hq : ((bit s j : Int) == (c : Int)) = true := by rw [hbit]; simp
        have HQ : Hid (FindR s c (j : Int)) := .inl ⟨j, rfl, hlt, hbit, hno.out⟩
        clear hbit
        go_wp2_with (go_at_call 13; refine (l8Get_any _ _ _ hb).mono ?_; rintro e w' ⟨rfl, rfl⟩)
        go_ret
        exact ⟨⟨_, rfl, HQ.out⟩, rfl⟩
      · have hq : ((bit s j : Int) == (c : Int)) = false := by rw [beq_eq_false_iff_ne]; omega
        have HQ : Hid (bit s j ≠ c) := hbit
        clear hbit
        go_wp2_with (go_at_call 13; refine (l8Get_any _ _ _ hb).mono ?_; rintro e w' ⟨rfl, rfl⟩)
        go_roundw
        case rel => exact ⟨j + 1, by omega, by go_num, fun k hk => by
          by_cases e : k = j
          · rw [e]; exact HQ.out
          · exact hno.out k (by omega), trivial⟩
        case measure => simp [intOf]; omega
    · have hi : ¬ (j : Int) < 8 * (s.size : Int) := by omega
      obtain rfl : j = 8 * s.size := by omega
      rcases hc with rfl | rfl
      · have HQ : Hid (FindR s 0 (8 * (s.size : Int))) := .inr ⟨hno.out, by rw [if_pos rfl]; omega⟩
        clear hno
        go_wp2_with fail
        go_ret
        exact ⟨⟨_, rfl, HQ.out⟩, rfl⟩
      · have HQ : Hid (FindR s 1 (-1)) := .inr ⟨hno.out, by rw [if_neg (by decide)]⟩
        clear hno
        go_wp2_with fail
        go_ret
        exact ⟨⟨_, rfl, HQ.out⟩, rfl⟩

theorem both (s : ByteArray) (b : Int) : ∃ v : Int, (∀ W, Calls Try.prog 10 #[.string s, .int .i64 b] W fun e w' => e = .returned (.int .i64 v) ∧ W = w') ∧ (∀ W, Calls Try.prog 11 #[.string s, .int .i64 b] W fun e w' => e = .returned (.int .i64 v) ∧ Below W.heap.size W w') := by
  by_cases h : okF s b
  · obtain ⟨h1, h2, h3, h4⟩ := h
    obtain ⟨c, rfl⟩ := Int.eq_ofNat_of_zero_le h3
    have hc : c = 0 ∨ c = 1 := by omega
    by_cases hv : ∃ v, FindR s c v
    · obtain ⟨v, hv⟩ := hv
      refine ⟨v, fun W => (specFind_any s c hc h1 h2 W).mono ?_, fun W => (implBitFind_in s c hc h1 h2 W).mono ?_⟩
      · rintro e w' ⟨⟨r, rfl, hr⟩, rfl⟩
        exact ⟨by rw [findR_one hr hv], rfl⟩
      · rintro e w' ⟨⟨r, rfl, hr⟩, hb⟩
        exact ⟨by rw [findR_one hr hv], hb⟩
    · refine ⟨0, fun W => (specFind_any s c hc h1 h2 W).mono ?_, fun W => (implBitFind_in s c hc h1 h2 W).mono ?_⟩
      · rintro e w' ⟨⟨r, rfl, hr⟩, rfl⟩
        exact absurd ⟨r, hr⟩ hv
      · rintro e w' ⟨⟨r, rfl, hr⟩, hb⟩
        exact absurd ⟨r, hr⟩ hv
  · exact ⟨-1, fun W => specNo_any s b W h, fun W => implNo_any s b W h⟩
set_option maxHeartbeats 4000000 in
theorem walk (s : ByteArray) (a : Int) (w : World) (w0 : s.size ≤ maxLen) (w1 : (Lit.int .i64 a).wf = true) :
    Calls Try.prog 5 #[.string s, .int .i64 a] w fun e w' => e = .returned (.bool true) ∧ Below w.heap.size w w' := by
  have wg := w0
  unfold maxLen at wg
  clear w0 w1
  rcases Int.lt_or_le (1048576 : Int) (s.size : Int) with hx | hx
  · go_enter Try.func5, Try.ntmps5
    go_wp2_with fail
    go_ret
    exact ⟨rfl, Below.refl _ _⟩
  · obtain ⟨v, hs, hi⟩ := both s a
    have HS : Hid _ := hs
    have HI : Hid _ := hi
    clear hs hi
    go_enter Try.func5, Try.ntmps5
    go_wp2_with fail
    refine (HS.out _).mono ?_
    rintro e w' ⟨rfl, rfl⟩
    go_wp2_with fail
    refine (HI.out _).mono ?_
    rintro e w2 ⟨rfl, hb⟩
    go_wp2_with fail
    go_ret
    exact ⟨rfl, hb⟩

set_option maxRecDepth 100000 in
theorem lifted (os : Os) (started : os.Started) (H : Type) (enc : TypeId × Value → H) :
    ReturnsInHanded {} Try.checked os 5 .any (Rows.fnExactTextBitFindSpec.pre6 enc Try.prog Try.f5 Rows.fnExactTextBitFindRow.domain false) (Rows.fnExactTextBitFindSpec.post enc Try.prog Try.f5 false true false false) := by
  refine returnsInHanded_of_change (C := Try.checked) own started (by kernel_rfl) Try.func5
    (ChangeSpec.witness6 (enc := enc) (C := Try.checked) false ⟨#[], #[.string ByteArray.empty, .int .i64 0], []⟩ 8 (by kernel_rfl) (by kernel_rfl) (by kernel_rfl) (by kernel_rfl)) ?_
  intro W base args ds gs before hval0 hW hcnd _
  have hval : ∀ (j : Nat) t v, Try.f5.params[j]? = some t → args[j]? = some v → Value.okWide Try.prog W .any base t v := hval0
  have hW' := hW
  obtain ⟨p, q, hA0, hV, rfl, hfz, hnd⟩ := hW
  have hA : DataW.TrodAll enc Try.prog W 0 (fun _ => true) true Try.f5.params.toList args.toList ds p := hA0
  rw [Try.params5] at hA hval
  obtain ⟨v0, vs0, d0, ds0, p0, q0, hargs, rfl, rfl, h0, r0⟩ := trodAll_cons hA
  obtain ⟨v1, vs1, d1, ds1, p1, q1, rfl, rfl, rfl, h1, r1⟩ := trodAll_cons r0
  obtain ⟨rfl, rfl, rfl⟩ := trodAll_nil r1
  obtain rfl : args = #[v0, v1] := by cases args; simp_all
  obtain ⟨rfl, rfl⟩ := trodVars_none hV
  obtain ⟨a0, rfl, rfl, rfl, w0⟩ := open_string Try.underlying9 (hval 0 9 v0 rfl rfl) h0
  obtain ⟨a1, rfl, rfl, rfl, w1⟩ := open_int Try.underlying3 (hval 1 3 v1 rfl rfl) h1
  clear hA0 hval0
  refine (walk a0 a1 W w0 w1).mono fun e W' ⟨he, bel⟩ => ?_
  subst he
  exact ⟨_, rfl, _, _, _, [], _, [], hW', trodAll_mk1 (shut_bool Try.underlying4 _), (trodAll_cons_mk (shut_string Try.underlying9 w0) (trodAll_cons_mk (shut_int Try.underlying3 w1) trodAll_mk0)), rfl, bel.frame _, fun h => by cases h⟩

theorem over : Rows.fnExactTextBitFindRow.holds Try.pinned (OpenSpec.ofChange Rows.fnExactTextBitFindSpec) :=
  OpenClaim.holds_of_wide 5 Try.f5 rfl rfl rfl rfl rfl rfl rfl ⟨rfl, rfl, rfl, rfl, rfl⟩ rfl rfl rfl rfl rfl (by kernel_rfl) Try.func5 (by kernel_rfl)
    (of_decide_eq_true (by kernel_rfl)) (by unfold Func.isWrapper; first | (rw [if_pos (by decide +kernel)]; kernel_rfl) | (rw [if_neg (by decide +kernel)]; exact ⟨rfl, rfl⟩))
    (fun os started H enc _ => lifted os started H enc)

theorem proved : Rows.FnExactTextBitFindSaid := over
end Go.Proofs.Ytpkbddpmbaleiaa.fnExactTextBitFind
