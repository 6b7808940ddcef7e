/- Proved: of every drawn text and bit, the place that TextBitFind tells has the bit and none ahead does; of 1 it is -1 just if there is none; it answers as its model. No condition. -/
import Derived.Test.YtnpkegmkmhambaaWdJ
import Derived.Test.YtnpkegmkmhambaaWdK
import Derived.ProofKit
import Derived.OpenShut
import Derived.ShutString
import Derived.ChangeOld
import Derived.Below
namespace Go.Proofs.Ytnpkegmkmhambaa.fnTextBitFind
open Go.ChangeShapes Go.WideShapes Go.ChangeAt Go.RowKit
open Go.ChangeMaps (open_string shut_string)
open wd
set_option linter.unusedVariables false

theorem own : ownKnob Try.prog.godebug = none := by kernel_rfl
theorem laidOut : laidOutB Try.prog = true := by kernel_rfl

/-- what a round of the law asks of the place n -/
def RoundOk (s : ByteArray) (c : Nat) (n : Int) (k : Nat) : Prop :=
  (((bit s k : Int) == (c : Int)) = true ∧ decide ((k : Int) < n) = false ∧ decide (n < 0) = false) ∨ (((bit s k : Int) == (c : Int)) = false ∧ (n == (k : Int)) = false)
theorem round_ok {s : ByteArray} {c : Nat} {n : Int} (h : FindR s c n) {k : Nat} (hk : k < 8 * s.size) : RoundOk s c n k := by
  rcases h with ⟨i, rfl, h1, h2, h3⟩ | ⟨h1, rfl⟩
  · by_cases hb : bit s k = c
    · refine .inl ⟨by rw [hb]; simp, decide_eq_false (fun h => ?_), decide_eq_false (by omega)⟩
      exact h3 k (by omega) hb
    · refine .inr ⟨by rw [beq_eq_false_iff_ne]; omega, ?_⟩
      rw [beq_eq_false_iff_ne]
      intro e
      have : i = k := by omega
      exact hb (by rw [← this]; exact h2)
  · refine .inr ⟨by rw [beq_eq_false_iff_ne]; intro e; exact h1 k hk (by omega), ?_⟩
    rw [beq_eq_false_iff_ne]
    split <;> omega
set_option maxRecDepth 100000 in
set_option maxHeartbeats 8000000 in
theorem tail (s : ByteArray) (c : Nat) (n : Int) (hc : c = 0 ∨ c = 1) (hs : s.size ≤ 40) (h0 : s.size ≠ 0) (hF : FindR s c n) : (0 ≤ n) ∨ (n = -1 ∧ cntV s 0 (-1) = 0) := by
  rcases hF with ⟨i, rfl, h1, h2, h3⟩ | ⟨h1, rfl⟩
  · exact .inl (by omega)
  · rcases hc with rfl | rfl
    · left; rw [if_pos rfl]; omega
    · right
      refine ⟨by rw [if_neg (by decide)], ?_⟩
      rw [cntV_all hs, bsum_none _ h1]; rfl
set_option maxRecDepth 100000 in
set_option maxHeartbeats 8000000 in
theorem walk (v : Value) (zs : List Int) (w : World) (h : IsBytes w v zs) :
    Calls Try.prog 5 #[v] w fun e w' => e = .returned (.bool true) ∧ Below w.heap.size w w' := by
  have hI := h
  obtain ⟨ao, cap, rfl, hlc, hcm, hzb, hz⟩ := h
  unfold maxLen at hcm
  clear hz hzb
  rcases Int.lt_or_le (1048576 : Int) (zs.length : Int) with hx | hx
  · go_enter Try.func5, Try.ntmps5
    go_wp2_with fail
    go_ret
    exact ⟨rfl, Below.refl _ _⟩
  · go_enter Try.func5, Try.ntmps5
    go_wp2_with fail
    refine (drawFind_any _ zs _ hI).mono ?_
    rintro e w1 ⟨s, b, rfl, hs, hb0, hb3, HB1⟩
    clear hI hlc hcm hx
    obtain ⟨c, rfl⟩ := Int.eq_ofNat_of_zero_le hb0
    by_cases hok : okF s (c : Int)
    · obtain ⟨_, h0, _, hc1⟩ := hok
      have hc : c = 0 ∨ c = 1 := by omega
      clear hb0 hb3
      go_wp2_with fail
      refine (implBitFind_in s c hc hs h0 _).mono ?_
      rintro e w2 ⟨⟨n, rfl, hn⟩, hb2⟩
      have HB2 := HB1.trans (hb2.mono HB1.size)
      have HN : Hid (FindR s c n) := hn
      clear hb2 HB1 hn
      go_wp2_with fail
      refine (specFind_any s c hc hs h0 _).mono ?_
      rintro e w3 ⟨⟨m, rfl, hm⟩, rfl⟩
      obtain rfl : m = n := findR_one hm HN.out
      have e1 : (m != m) = false := by simp
      have e2 : decide ((c : Int) < 0) = false := decide_eq_false (by omega)
      have e3 : decide ((1 : Int) < (c : Int)) = false := decide_eq_false (by omega)
      have e4 : ((s.size : Int) == 0) = false := by rw [beq_eq_false_iff_ne]; omega
      have HT : Hid ((0 ≤ m) ∨ (m = -1 ∧ cntV s 0 (-1) = 0)) := tail s c m hc hs h0 hm
      clear hm h0 hc1 hc
      go_wp2_with fail
      clear e1 e2 e3 e4
      have HW : Hid (Below w.heap.size w w2) := HB2
      clear HB2
      go_loopw [6] (fun i wr => ∃ k : Nat, k ≤ 8 * s.size ∧ i = .int .i64 (k : Int) ∧ Hid (Below w.heap.size w wr)) (fun i _ => 8 * s.size - (intOf i).toNat)
      case atStart => exact ⟨0, Nat.zero_le _, rfl, HW⟩
      case round =>
        obtain ⟨k, hk, rfl, HB⟩ := hrel
        clear HW
        by_cases hlt : k < 8 * s.size
        · have hi : (k : Int) < 8 * (s.size : Int) := by omega
          have hg := getV_bit hs hlt
          have HG : Hid _ := hg
          have hro := round_ok HN.out hlt
          clear hg
          go_wp2_with fail
          refine (implBitGet_any s (k : Int) _).mono ?_
          rw [HG.out]
          rintro e w4 ⟨rfl, hb4⟩
          have HB4 : Hid (Below w.heap.size w w4) := HB.out.trans (hb4.mono HB.out.size)
          clear hb4 HG
          rcases hro with ⟨q1, q2, q3⟩ | ⟨q1, q2⟩
          · cases q4 : (m == (k : Int)) with
            | true =>
              go_wp2_with fail
              go_roundw
              case rel => exact ⟨k + 1, by omega, by go_num, HB4⟩
              case measure => simp [intOf]; omega
            | false =>
              go_wp2_with fail
              go_roundw
              case rel => exact ⟨k + 1, by omega, by go_num, HB4⟩
              case measure => simp [intOf]; omega
          · go_wp2_with fail
            all_goals go_roundw
            all_goals first | exact ⟨k + 1, by omega, by go_num, HB4⟩ | (simp [intOf]; omega)
        · have hi : ¬ (k : Int) < 8 * (s.size : Int) := by omega
          rcases HT.out with h1 | ⟨rfl, h1⟩
          · go_wp2_with fail
            go_ret
            exact ⟨rfl, HB.out⟩
          · have HC : Hid _ := h1
            clear h1 HT HN
            go_wp2_with fail
            refine (implCount_any s 0 (-1) _).mono ?_
            rw [HC.out]
            rintro e w5 ⟨rfl, hb5⟩
            go_wp2_with fail
            go_ret
            exact ⟨rfl, HB.out.trans (hb5.mono HB.out.size)⟩
    · have hno := hok
      go_wp2_with fail
      refine (implNoF_any s _ _ hok).mono ?_
      rintro e w2 ⟨rfl, hb2⟩
      have HB2 := HB1.trans (hb2.mono HB1.size)
      clear hb2 HB1
      go_wp2_with fail
      refine (specNoF_any s _ _ hno).mono ?_
      rintro e w3 ⟨rfl, rfl⟩
      have e2 : decide ((c : Int) < 0) = false := decide_eq_false (by omega)
      by_cases hc2 : c = 2
      · subst hc2
        clear hno hok
        go_wp2_with fail
        refine (specNoF_any s _ _ (by unfold okF; omega)).mono ?_
        rintro e w4 ⟨rfl, rfl⟩
        go_wp2_with fail
        go_ret
        exact ⟨rfl, HB2⟩
      · have e3 : decide ((1 : Int) < (c : Int)) = false := decide_eq_false (by omega)
        have hz : s.size = 0 := by
          by_cases h0 : s.size = 0
          · exact h0
          · exact absurd ⟨hs, h0, by omega, by omega⟩ hok
        have e4 : ((s.size : Int) == 0) = true := by rw [hz]; rfl
        have HNO : Hid _ := hno
        clear hno hok hz hc2
        go_wp2_with fail
        refine (specNoF_any s _ _ HNO.out).mono ?_
        rintro e w4 ⟨rfl, rfl⟩
        go_wp2_with fail
        go_ret
        exact ⟨rfl, HB2⟩

set_option maxRecDepth 100000 in
theorem lifted (os : Os) (started : os.Started) (H : Type) (enc : TypeId × Value → H) :
    ReturnsInHanded {} Try.checked os 5 .any (Rows.fnTextBitFindSpec.pre6 enc Try.prog Try.f5 Rows.fnTextBitFindRow.domain false) (Rows.fnTextBitFindSpec.post enc Try.prog Try.f5 false true false false) := by
  refine returnsInHanded_of_change (C := Try.checked) own started (by kernel_rfl) Try.func5
    (ChangeSpec.witness6 (enc := enc) (C := Try.checked) false ⟨#[], #[.slice none 0 0], []⟩ 8 (by kernel_rfl) (by kernel_rfl) (by kernel_rfl) (by kernel_rfl)) ?_
  intro W base args ds gs before hval0 hW hcnd _
  have hval : ∀ (j : Nat) t v, Try.f5.params[j]? = some t → args[j]? = some v → Value.okWide Try.prog W .any base t v := hval0
  have hW' := hW
  obtain ⟨p, q, hA0, hV, rfl, hfz, hnd⟩ := hW
  have hA : DataW.TrodAll enc Try.prog W 0 (fun _ => true) true Try.f5.params.toList args.toList ds p := hA0
  rw [Try.params5] at hA hval
  obtain ⟨v0, vs0, d0, ds0, p0, q0, hargs, rfl, rfl, h0, r0⟩ := trodAll_cons hA
  obtain ⟨rfl, rfl, rfl⟩ := trodAll_nil r0
  obtain rfl : args = #[v0] := by cases args; simp_all
  obtain ⟨rfl, rfl⟩ := trodVars_none hV
  obtain ⟨a0, len0, cap0, rfl⟩ := okWide_slice Try.underlying22 (hval 0 22 v0 rfl rfl)
  have k0 := h0
  have lt0 : ∀ x ∈ p0, x.block < W.heap.size := by obtain ⟨m, hm⟩ := k0; exact DataW.trod_lt m _ _ _ hm
  obtain ⟨z0, w0⟩ : ∃ zs, IsBytes W (.slice a0 len0 cap0) zs := by
    obtain ⟨fuel, hf⟩ := h0
    rcases open_ints Try.underlying22 Try.underlying5 (by kernel_rfl) hf with ⟨hcs, _⟩ | ⟨x, ln, cp, zs, hcs, _, hl, hm, hz, _, hcell, hwz⟩
    · exact bytes_of_none (by simpa [Value.cells] using hcs)
    · exact bytes_of_some (by simpa [Value.cells] using hcs) hl hm (by simpa using hz) hcell hwz
  clear hA0 hval0
  refine (walk (.slice a0 len0 cap0) z0 W w0).mono fun e W' ⟨he, bel⟩ => ?_
  subst he
  exact ⟨_, rfl, _, _, _, [], _, [], hW', trodAll_mk1 (shut_bool Try.underlying4 _), (trodAll_cons_mk (Below.trod laidOut (by kernel_rfl) (of_decide_eq_true (by kernel_rfl)) k0 bel lt0) trodAll_mk0), rfl, bel.frame _, fun h => by cases h⟩

theorem over : Rows.fnTextBitFindRow.holds Try.pinned (OpenSpec.ofChange Rows.fnTextBitFindSpec) :=
  OpenClaim.holds_of_wide 5 Try.f5 rfl rfl rfl rfl rfl rfl rfl ⟨rfl, rfl, rfl, rfl, rfl⟩ rfl rfl rfl rfl rfl (by kernel_rfl) Try.func5 (by kernel_rfl)
    (of_decide_eq_true (by kernel_rfl)) (by unfold Func.isWrapper; first | (rw [if_pos (by decide +kernel)]; kernel_rfl) | (rw [if_neg (by decide +kernel)]; exact ⟨rfl, rfl⟩))
    (fun os started H enc _ => lifted os started H enc)

theorem proved : Rows.FnTextBitFindSaid := over
end Go.Proofs.Ytnpkegmkmhambaa.fnTextBitFind
