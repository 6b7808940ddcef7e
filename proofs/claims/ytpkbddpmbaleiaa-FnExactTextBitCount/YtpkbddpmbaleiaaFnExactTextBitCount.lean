/- Proved: at every text and two places TextBitCount answers as its model. No condition. -/
import Derived.Test.YtpkbddpmbaleiaaWdH
import Derived.ProofKit
import Derived.OpenShut
import Derived.ShutString
import Derived.ChangeOld
import Derived.Below
namespace Go.Proofs.Ytpkbddpmbaleiaa.fnExactTextBitCount
open Go.ChangeShapes Go.WideShapes Go.ChangeAt Go.RowKit
open Go.ChangeMaps (open_string shut_string)
open wd
set_option linter.unusedVariables false

theorem own : ownKnob Try.prog.godebug = none := by kernel_rfl
theorem laidOut : laidOutB Try.prog = true := by kernel_rfl

theorem no_cases {s : ByteArray} {f t : Int} (h : ¬ (s.size ≤ 40 ∧ placeB f = true ∧ placeB t = true)) : 40 < s.size ∨ (s.size ≤ 40 ∧ placeB f = false) ∨ (s.size ≤ 40 ∧ placeB f = true ∧ placeB t = false) := by
  by_cases h1 : s.size ≤ 40
  · cases h2 : placeB f with
    | false => exact .inr (.inl ⟨h1, rfl⟩)
    | true => cases h3 : placeB t with
      | false => exact .inr (.inr ⟨h1, rfl, rfl⟩)
      | true => exact absurd ⟨h1, h2, h3⟩ h
  · exact .inl (by omega)
set_option maxRecDepth 100000 in
set_option maxHeartbeats 4000000 in
theorem implNo_any (s : ByteArray) (f t : Int) (w : World) (h : ¬ (s.size ≤ 40 ∧ placeB f = true ∧ placeB t = true)) :
    Calls Try.prog 9 #[.string s, .int .i64 f, .int .i64 t] w fun e w' => e = .returned (.int .i64 (cntV s f t)) ∧ w = w' := by
  have HV : Hid (cntV s f t = 0) := by show _ = _; unfold cntV; rw [if_neg h]
  rcases no_cases h with h1 | ⟨h1, h2⟩ | ⟨h1, h2, h3⟩
  · have h40 : (40 : Int) < (s.size : Int) := by omega
    clear h h1
    go_enter Try.func9, Try.ntmps9
    go_wp2_with fail
    go_ret
    exact ⟨wret_i HV.out.symm, rfl⟩
  · have hd40 : decide ((40 : Int) < (s.size : Int)) = false := decide_eq_false (by omega)
    clear h h1
    go_enter Try.func9, Try.ntmps9
    go_wp2_with (go_at_call 18; refine (placeOk_any _ _).mono ?_; rintro e w' ⟨rfl, rfl⟩; rw [h2])
    go_ret
    exact ⟨wret_i HV.out.symm, rfl⟩
  · have hd40 : decide ((40 : Int) < (s.size : Int)) = false := decide_eq_false (by omega)
    clear h h1
    go_enter Try.func9, Try.ntmps9
    go_wp2_with (go_at_call 18; refine (placeOk_any _ _).mono ?_; rintro e w' ⟨rfl, rfl⟩; first | rw [h2] | rw [h3])
    go_ret
    exact ⟨wret_i HV.out.symm, rfl⟩
set_option maxRecDepth 100000 in
set_option maxHeartbeats 4000000 in
theorem specNo_any (s : ByteArray) (f t : Int) (w : World) (h : ¬ (s.size ≤ 40 ∧ placeB f = true ∧ placeB t = true)) :
    Calls Try.prog 8 #[.string s, .int .i64 f, .int .i64 t] w fun e w' => e = .returned (.int .i64 (cntV s f t)) ∧ w = w' := by
  have HV : Hid (cntV s f t = 0) := by show _ = _; unfold cntV; rw [if_neg h]
  rcases no_cases h with h1 | ⟨h1, h2⟩ | ⟨h1, h2, h3⟩
  · have h40 : (40 : Int) < (s.size : Int) := by omega
    clear h h1
    go_enter Try.func8, Try.ntmps8
    go_wp2_with fail
    go_ret
    exact ⟨wret_i HV.out.symm, rfl⟩
  · have hd40 : decide ((40 : Int) < (s.size : Int)) = false := decide_eq_false (by omega)
    clear h h1
    go_enter Try.func8, Try.ntmps8
    go_wp2_with (go_at_call 16; refine (l2Place_any _ _).mono ?_; rintro e w' ⟨rfl, rfl⟩; rw [h2])
    go_ret
    exact ⟨wret_i HV.out.symm, rfl⟩
  · have hd40 : decide ((40 : Int) < (s.size : Int)) = false := decide_eq_false (by omega)
    clear h h1
    go_enter Try.func8, Try.ntmps8
    go_wp2_with (go_at_call 16; refine (l2Place_any _ _).mono ?_; rintro e w' ⟨rfl, rfl⟩; first | rw [h2] | rw [h3])
    go_ret
    exact ⟨wret_i HV.out.symm, rfl⟩
/-- ones of n bits from i on -/
def bsum (s : ByteArray) (i : Nat) : Nat → Nat
  | 0 => 0
  | n + 1 => bsum s i n + bit s (i + n)
theorem bsum_le (s : ByteArray) (i : Nat) : ∀ n, bsum s i n ≤ n
  | 0 => Nat.le_refl _
  | n + 1 => by have := bsum_le s i n; have := bit_lt s (i + n); rw [bsum]; omega
theorem bsum_pcs (s : ByteArray) (a : Nat) : ∀ n, bsum s (8 * a) (8 * n) = pcs s a n
  | 0 => rfl
  | n + 1 => by
    have e : ∀ r, r < 8 → bit s (8 * a + (8 * n + r)) = byt s (a + n) / 2 ^ (7 - r) % 2 := by
      intro r hr
      unfold bit
      rw [show (8 * a + (8 * n + r)) / 8 = a + n by omega, show (8 * a + (8 * n + r)) % 8 = r by omega]
    rw [show 8 * (n + 1) = 8 * n + 7 + 1 by omega]
    rw [bsum, show 8 * n + 7 = 8 * n + 6 + 1 by omega, bsum, show 8 * n + 6 = 8 * n + 5 + 1 by omega, bsum, show 8 * n + 5 = 8 * n + 4 + 1 by omega, bsum, show 8 * n + 4 = 8 * n + 3 + 1 by omega, bsum, show 8 * n + 3 = 8 * n + 2 + 1 by omega, bsum, show 8 * n + 2 = 8 * n + 1 + 1 by omega, bsum, bsum, bsum_pcs s a n, pcs]
    have e0 := e 0 (by decide)
    have e1 := e 1 (by decide)
    have e2 := e 2 (by decide)
    have e3 := e 3 (by decide)
    have e4 := e 4 (by decide)
    have e5 := e 5 (by decide)
    have e6 := e 6 (by decide)
    have e7 := e 7 (by decide)
    rw [Nat.add_zero] at e0
    rw [e0, e1, show 8 * n + 1 + 1 = 8 * n + 2 by omega, e2, show 8 * n + 2 + 1 = 8 * n + 3 by omega, e3, show 8 * n + 3 + 1 = 8 * n + 4 by omega, e4, show 8 * n + 4 + 1 = 8 * n + 5 by omega, e5, show 8 * n + 5 + 1 = 8 * n + 6 by omega, e6, show 8 * n + 6 + 1 = 8 * n + 7 by omega, e7]
    unfold pc
    simp only [Nat.reduceSub, Nat.reducePow, Nat.div_one]
    omega
set_option maxRecDepth 100000 in
set_option maxHeartbeats 4000000 in
theorem specCount_any (s : ByteArray) (f t : Int) (hs : s.size ≤ 40) (hf : placeB f = true) (ht : placeB t = true) (w : World) :
    Calls Try.prog 8 #[.string s, .int .i64 f, .int .i64 t] w fun e w' => e = .returned (.int .i64 (cntV s f t)) ∧ w = w' := by
  have hd40 : decide ((40 : Int) < (s.size : Int)) = false := decide_eq_false (by omega)
  obtain ⟨hae, hen⟩ := ends_le (n := s.size) f t
  obtain ⟨a, ha⟩ : ∃ a, endA s.size f t = a := ⟨_, rfl⟩
  obtain ⟨e, he⟩ : ∃ e, endE s.size f t = e := ⟨_, rfl⟩
  have HV : Hid (cntV s f t = (bsum s (8 * a) (8 * (e - a)) : Int)) := by show _ = _; unfold cntV; rw [if_pos ⟨hs, hf, ht⟩, ha, he, bsum_pcs]
  have hpb := l2Ends_any (s.size : Int) f t
  rw [ha, he] at hae; rw [he] at hen
  rw [ha, he] at hpb
  have HPB : Hid _ := hpb
  have hb1 := place_bd hf
  have hb2 := place_bd ht
  clear ha he hpb
  go_enter Try.func8, Try.ntmps8
  go_wp2_with (first | (go_at_call 16; refine (l2Place_any _ _).mono ?_; rintro e' w' ⟨rfl, rfl⟩; first | rw [hf] | rw [ht]) | (go_at_call 17; refine (HPB.out _ (by omega) (by omega) hb1 hb2).mono ?_; rintro e' w' ⟨rfl, rfl⟩))
  clear hd40 hb1 hb2 hf ht
  go_loopw [9, 10] (fun n i wr => ∃ j : Nat, j ≤ 8 * (e - a) ∧ i = .int .i64 ((8 * a + j : Nat) : Int) ∧ n = .int .i64 (bsum s (8 * a) j : Int) ∧ w = wr) (fun _ i _ => 8 * e - (intOf i).toNat)
  case atStart => exact ⟨0, Nat.zero_le _, by simp, rfl, rfl⟩
  case round =>
    obtain ⟨j, hj, rfl, rfl, rfl⟩ := hrel
    have hle := bsum_le s (8 * a) j
    by_cases hlt : j < 8 * (e - a)
    · have hi : ((8 * a + j : Nat) : Int) < 8 * (e : Int) := by omega
      have hb : 8 * a + j ≤ 1000000000 := by omega
      have hbl := bit_lt s (8 * a + j)
      obtain ⟨i, hii⟩ : ∃ i, 8 * a + j = i := ⟨_, rfl⟩
      have HJ : Hid (i = 8 * a + j) := hii.symm
      rw [hii] at hi hb hbl ⊢
      have HSN : Hid (bsum s (8 * a) (j + 1) = bsum s (8 * a) j + bit s i) := by show _ = _; rw [bsum, hii]
      have hi2 : i ≤ 1000 := by omega
      clear hii
      generalize bsum s (8 * a) j = n at *
      have hn : n ≤ 1000 := by omega
      go_wp2_with (go_at_call 13; refine (l8Get_any _ _ _ hb).mono ?_; rintro e' w' ⟨rfl, rfl⟩)
      go_roundw
      case rel => exact ⟨j + 1, by omega, by rw [show 8 * a + (j + 1) = i + 1 by rw [HJ.out]; omega]; go_num, by rw [HSN.out]; go_num, trivial⟩
      case measure => simp [intOf]; omega
    · have hi : ¬ ((8 * a + j : Nat) : Int) < 8 * (e : Int) := by omega
      obtain rfl : j = 8 * (e - a) := by omega
      generalize 8 * a + 8 * (e - a) = i at *
      go_wp2_with fail
      go_ret
      exact ⟨wret_i HV.out.symm, rfl⟩

theorem both (s : ByteArray) (f t : Int) : ∃ v : Int, (∀ W, Calls Try.prog 8 #[.string s, .int .i64 f, .int .i64 t] W fun e w' => e = .returned (.int .i64 v) ∧ W = w') ∧ (∀ W, Calls Try.prog 9 #[.string s, .int .i64 f, .int .i64 t] W fun e w' => e = .returned (.int .i64 v) ∧ Below W.heap.size W w') := by
  refine ⟨cntV s f t, ?_⟩
  by_cases h : s.size ≤ 40 ∧ placeB f = true ∧ placeB t = true
  · exact ⟨fun W => specCount_any s f t h.1 h.2.1 h.2.2 W, fun W => implCount_in s f t h.1 h.2.1 h.2.2 W⟩
  · exact ⟨fun W => specNo_any s f t W h, fun W => (implNo_any s f t W h).mono fun e w' ⟨h1, h2⟩ => ⟨h1, by rw [← h2]; exact Below.refl _ _⟩⟩
set_option maxHeartbeats 4000000 in
theorem walk (s : ByteArray) (a b : Int) (w : World) (w0 : s.size ≤ maxLen) (w1 : (Lit.int .i64 a).wf = true) (w2 : (Lit.int .i64 b).wf = true) :
    Calls Try.prog 4 #[.string s, .int .i64 a, .int .i64 b] w fun e w' => e = .returned (.bool true) ∧ Below w.heap.size w w' := by
  have wg := w0
  unfold maxLen at wg
  clear w0 w1 w2
  rcases Int.lt_or_le (1048576 : Int) (s.size : Int) with hx | hx
  · go_enter Try.func4, Try.ntmps4
    go_wp2_with fail
    go_ret
    exact ⟨rfl, Below.refl _ _⟩
  · obtain ⟨v, hs, hi⟩ := both s a b
    have HS : Hid _ := hs
    have HI : Hid _ := hi
    clear hs hi
    go_enter Try.func4, Try.ntmps4
    go_wp2_with fail
    refine (HS.out _).mono ?_
    rintro e w' ⟨rfl, rfl⟩
    go_wp2_with fail
    refine (HI.out _).mono ?_
    rintro e w2 ⟨rfl, hb⟩
    go_wp2_with fail
    go_ret
    exact ⟨rfl, hb⟩

set_option maxRecDepth 100000 in
theorem lifted (os : Os) (started : os.Started) (H : Type) (enc : TypeId × Value → H) :
    ReturnsInHanded {} Try.checked os 4 .any (Rows.fnExactTextBitCountSpec.pre6 enc Try.prog Try.f4 Rows.fnExactTextBitCountRow.domain false) (Rows.fnExactTextBitCountSpec.post enc Try.prog Try.f4 false true false false) := by
  refine returnsInHanded_of_change (C := Try.checked) own started (by kernel_rfl) Try.func4
    (ChangeSpec.witness6 (enc := enc) (C := Try.checked) false ⟨#[], #[.string ByteArray.empty, .int .i64 0, .int .i64 0], []⟩ 8 (by kernel_rfl) (by kernel_rfl) (by kernel_rfl) (by kernel_rfl)) ?_
  intro W base args ds gs before hval0 hW hcnd _
  have hval : ∀ (j : Nat) t v, Try.f4.params[j]? = some t → args[j]? = some v → Value.okWide Try.prog W .any base t v := hval0
  have hW' := hW
  obtain ⟨p, q, hA0, hV, rfl, hfz, hnd⟩ := hW
  have hA : DataW.TrodAll enc Try.prog W 0 (fun _ => true) true Try.f4.params.toList args.toList ds p := hA0
  rw [Try.params4] at hA hval
  obtain ⟨v0, vs0, d0, ds0, p0, q0, hargs, rfl, rfl, h0, r0⟩ := trodAll_cons hA
  obtain ⟨v1, vs1, d1, ds1, p1, q1, rfl, rfl, rfl, h1, r1⟩ := trodAll_cons r0
  obtain ⟨v2, vs2, d2, ds2, p2, q2, rfl, rfl, rfl, h2, r2⟩ := trodAll_cons r1
  obtain ⟨rfl, rfl, rfl⟩ := trodAll_nil r2
  obtain rfl : args = #[v0, v1, v2] := by cases args; simp_all
  obtain ⟨rfl, rfl⟩ := trodVars_none hV
  obtain ⟨a0, rfl, rfl, rfl, w0⟩ := open_string Try.underlying9 (hval 0 9 v0 rfl rfl) h0
  obtain ⟨a1, rfl, rfl, rfl, w1⟩ := open_int Try.underlying3 (hval 1 3 v1 rfl rfl) h1
  obtain ⟨a2, rfl, rfl, rfl, w2⟩ := open_int Try.underlying3 (hval 2 3 v2 rfl rfl) h2
  clear hA0 hval0
  refine (walk a0 a1 a2 W w0 w1 w2).mono fun e W' ⟨he, bel⟩ => ?_
  subst he
  exact ⟨_, rfl, _, _, _, [], _, [], hW', trodAll_mk1 (shut_bool Try.underlying4 _), (trodAll_cons_mk (shut_string Try.underlying9 w0) (trodAll_cons_mk (shut_int Try.underlying3 w1) (trodAll_cons_mk (shut_int Try.underlying3 w2) trodAll_mk0))), rfl, bel.frame _, fun h => by cases h⟩

theorem over : Rows.fnExactTextBitCountRow.holds Try.pinned (OpenSpec.ofChange Rows.fnExactTextBitCountSpec) :=
  OpenClaim.holds_of_wide 4 Try.f4 rfl rfl rfl rfl rfl rfl rfl ⟨rfl, rfl, rfl, rfl, rfl⟩ rfl rfl rfl rfl rfl (by kernel_rfl) Try.func4 (by kernel_rfl)
    (of_decide_eq_true (by kernel_rfl)) (by unfold Func.isWrapper; first | (rw [if_pos (by decide +kernel)]; kernel_rfl) | (rw [if_neg (by decide +kernel)]; exact ⟨rfl, rfl⟩))
    (fun os started H enc _ => lifted os started H enc)

theorem proved : Rows.FnExactTextBitCountSaid := over
end Go.Proofs.Ytpkbddpmbaleiaa.fnExactTextBitCount
