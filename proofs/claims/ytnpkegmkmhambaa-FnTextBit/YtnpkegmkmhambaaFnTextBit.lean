/- Proved: of every drawn text, place and bit, TextBitPut answers as its model, what is put is got, all other bits are as they were, and what was put back makes the bits as they were; TextBitGet answers as its model. No condition. -/
import Derived.Test.YtnpkegmkmhambaaWdS
import Derived.Test.YtnpkegmkmhambaaWdT
import Derived.Test.YtnpkegmkmhambaaWdK
import Derived.ProofKit
import Derived.OpenShut
import Derived.ShutString
import Derived.ChangeOld
import Derived.Below
namespace Go.Proofs.Ytnpkegmkmhambaa.fnTextBit
open Go.ChangeShapes Go.WideShapes Go.ChangeAt Go.RowKit
open Go.ChangeMaps (open_string shut_string)
open wd
set_option linter.unusedVariables false

theorem own : ownKnob Try.prog.godebug = none := by kernel_rfl
theorem laidOut : laidOutB Try.prog = true := by kernel_rfl

theorem bsum_ext {y s : ByteArray} (h : ∀ i, bit y i = bit s i) : ∀ n, bsum y 0 n = bsum s 0 n
  | 0 => rfl
  | n + 1 => by rw [bsum, bsum, bsum_ext h n, h]
theorem bsum_far (s : ByteArray) : ∀ m, bsum s 0 (8 * s.size + m) = bsum s 0 (8 * s.size)
  | 0 => rfl
  | m + 1 => by
    rw [← Nat.add_assoc, bsum, bsum_far s m, bit_out (by omega), Nat.add_zero]
theorem cnt_back {s : ByteArray} {k c : Nat} (hs : s.size ≤ 40) (hk : k < 320) (hc : c < 2) : cntV (putT (putT s k c) k (bit s k)) 0 (-1) = cntV s 0 (-1) := by
  have h1 := putT_size s k c
  have h2 := putT_size (putT s k c) k (bit s k)
  rw [cntV_all (by omega), cntV_all hs, bsum_ext (bit_back s hc)]
  have e : 8 * (putT (putT s k c) k (bit s k)).size = 8 * s.size + (8 * (putT (putT s k c) k (bit s k)).size - 8 * s.size) := by omega
  rw [e, bsum_far]
theorem get_in {s : ByteArray} {k : Nat} (hs : s.size ≤ 40) (hk : k < 320) : getV s (k : Int) = (bit s k : Int) := by
  unfold getV
  rw [if_pos (by unfold bplB; rw [decide_eq_true (by omega), decide_eq_true (by omega), decide_eq_true (by omega)]; rfl)]
  rfl
set_option maxRecDepth 100000 in
set_option maxHeartbeats 8000000 in
theorem walk (v : Value) (zs : List Int) (v2 : Value) (ys : List Int) (w : World) (h : IsBytes w v zs) (h2 : IsBytes w v2 ys) :
    Calls Try.prog 3 #[v, v2] w fun e w' => e = .returned (.bool true) ∧ Below w.heap.size w w' := by
  have hI := h
  obtain ⟨ao, cap, rfl, hlc, hcm, hzb, hz⟩ := h
  obtain ⟨ao2, cap2, rfl, hlc2, hcm2, hzb2, hz2⟩ := h2
  unfold maxLen at hcm hcm2
  clear hz hzb hz2 hzb2
  rcases Int.lt_or_le (1048576 : Int) (zs.length : Int) with hx | hx
  · go_enter Try.func3, Try.ntmps3
    go_wp2_with fail
    go_ret
    exact ⟨rfl, Below.refl _ _⟩
  rcases Int.lt_or_le (1048576 : Int) (ys.length : Int) with hy | hy
  · have hx' : decide ((1048576 : Int) < (zs.length : Int)) = false := decide_eq_false (by omega)
    go_enter Try.func3, Try.ntmps3
    go_wp2_with fail
    go_ret
    exact ⟨rfl, Below.refl _ _⟩
  have hx' : decide ((1048576 : Int) < (zs.length : Int)) = false := decide_eq_false (by omega)
  have hy' : decide ((1048576 : Int) < (ys.length : Int)) = false := decide_eq_false (by omega)
  go_enter Try.func3, Try.ntmps3
  go_wp2_with fail
  refine (drawPut_any _ zs _ hI).mono ?_
  rintro e w1 ⟨s, a, b, rfl, hs41, HB1⟩
  clear hI hlc hcm hx' hy'
  have HPC : Hid (putB s a b = true → s.size ≤ 40 ∧ ∃ k c : Nat, a = (k : Int) ∧ b = (c : Int) ∧ k < 320 ∧ c < 2) := put_cases s a b
  have HX0 : Hid (putB s a b = true → putX s a b = putT s a.toNat b.toNat ∧ putW s a b = (bit s a.toNat : Int)) := fun h => by
    constructor
    · unfold putX; rw [if_pos h]
    · unfold putW; rw [if_pos h]
  have HSP : Hid (∀ W, Calls Try.prog 8 #[.string s, .int .i64 a, .int .i64 b] W fun e w' => e = .returned (.tuple #[.string (putX s a b), .int .i64 (putW s a b), .bool (putB s a b)]) ∧ Below W.heap.size W w') := specPut_any s a b
  go_wp2_with fail
  refine (implPut_any s a b _).mono ?_
  rintro e w2 ⟨rfl, hb2⟩
  have HB2 : Hid (Below w.heap.size w w2) := HB1.trans (hb2.mono HB1.size)
  clear hb2 HB1
  generalize putX s a b = X at *
  generalize putW s a b = u at *
  generalize putB s a b = B at *
  go_wp2_with fail
  refine (HSP.out _).mono ?_
  rintro e w3 ⟨rfl, hb3⟩
  have HB3 : Hid (Below w.heap.size w w3) := HB2.out.trans (hb3.mono HB2.out.size)
  clear hb3
  cases B with
  | false =>
    have HIG : Hid (∀ W, Calls Try.prog 9 #[.string s, .int .i64 a] W fun e w' => e = .returned (.int .i64 (getV s a)) ∧ Below W.heap.size W w') := fun W => implBitGet_any s a W
    have HSG : Hid (∀ W, Calls Try.prog 10 #[.string s, .int .i64 a] W fun e w' => e = .returned (.int .i64 (getV s a)) ∧ W = w') := fun W => specBitGet_any s a W
    clear HPC HX0 HSP
    generalize getV s a = g at *
    have e1 : (u != u) = false := by simp
    have e4 : (g != g) = false := by simp
    go_wp2_with fail
    refine (HIG.out _).mono ?_
    rintro e w4 ⟨rfl, hb4⟩
    have HB4 : Hid (Below w.heap.size w w4) := HB3.out.trans (hb4.mono HB3.out.size)
    clear hb4
    go_wp2_with fail
    refine (HSG.out _).mono ?_
    rintro e w5 ⟨rfl, rfl⟩
    go_wp2_with fail
    refine (HIG.out _).mono ?_
    rintro e w6 ⟨rfl, hb6⟩
    have HB6 : Hid (Below w.heap.size w w6) := HB4.out.trans (hb6.mono HB4.out.size)
    clear hb6
    go_wp2_with fail
    refine (HSG.out _).mono ?_
    rintro e w7 ⟨rfl, rfl⟩
    go_wp2_with fail
    go_ret
    exact ⟨by simp, HB6.out⟩
  | true =>
    obtain ⟨hs, k, c, rfl, rfl, hk, hc⟩ := HPC.out rfl
    obtain ⟨hX, hu⟩ := HX0.out rfl
    simp only [Int.toNat_natCast] at hX hu
    have h1 := putT_size s k c
    have HXS : Hid (X.size ≤ 40 ∧ s.size ≤ X.size ∧ k < 8 * X.size) := by
      show _ ∧ _ ∧ _
      rw [hX]; omega
    have hbt : ∀ i, bit X i = if i = k then c else bit s i := fun i => by rw [hX]; exact bit_putT s hc i
    have hcn := cnt_back hs hk hc
    rw [← hX] at hcn
    have hbk := hbt k
    rw [if_pos rfl] at hbk
    have hXo : ∀ o, o < 320 → o ≠ k → getV X (o : Int) = getV s (o : Int) := fun o ho hne => by
      rw [get_in HXS.out.1 ho, get_in hs ho, hbt o, if_neg hne]
    have HXO : Hid _ := hXo
    have hY : ∀ W, Calls Try.prog 7 #[.string X, .int .i64 (k : Int), .int .i64 u] W fun e w' => e = .returned (.tuple #[.string (putT X k (bit s k)), .int .i64 (c : Int), .bool true]) ∧ Below W.heap.size W w' := fun W => by
      have := implPut_in X k (bit s k) HXS.out.1 hk (bit_lt s k) W
      rw [hbk, ← hu] at this
      exact this
    have HGX : Hid (∀ W, Calls Try.prog 9 #[.string X, .int .i64 (k : Int)] W fun e w' => e = .returned (.int .i64 (c : Int)) ∧ Below W.heap.size W w') := fun W => by
      have := implBitGet_any X (k : Int) W
      rw [get_in HXS.out.1 hk, hbk] at this
      exact this
    have HGS : Hid (∀ W, Calls Try.prog 9 #[.string s, .int .i64 (k : Int)] W fun e w' => e = .returned (.int .i64 u) ∧ Below W.heap.size W w') := fun W => by
      have := implBitGet_any s (k : Int) W
      rw [get_in hs hk, ← hu] at this
      exact this
    have HSG : Hid (∀ W, Calls Try.prog 10 #[.string s, .int .i64 (k : Int)] W fun e w' => e = .returned (.int .i64 u) ∧ W = w') := fun W => by
      have := specBitGet_any s (k : Int) W
      rw [get_in hs hk, ← hu] at this
      exact this
    generalize putT X k (bit s k) = Y at hY hcn
    have HY : Hid _ := hY
    have HCN : Hid (cntV Y 0 (-1) = cntV s 0 (-1)) := hcn
    obtain ⟨o, ho⟩ : ∃ o : Nat, ys.length % 320 = o := ⟨_, rfl⟩
    have ho3 : o < 320 := by have := Nat.mod_lt ys.length (show 0 < 320 by decide); omega
    have hoI : (ys.length : Int).tmod 320 = (o : Int) := by
      rw [show (320 : Int) = ((320 : Nat) : Int) from rfl, ← Int.ofNat_tmod, ho]
    have hoI2 : (ys.length : Int) % 320 = (o : Int) := by omega
    clear hY hcn hbk hbt hX hu h1 hXo HPC HX0 HSP ho
    have e1 : (u != u) = false := by simp
    go_wp2_with fail
    refine (HGS.out _).mono ?_
    rintro e w4 ⟨rfl, hb4⟩
    have HB4 : Hid (Below w.heap.size w w4) := HB3.out.trans (hb4.mono HB3.out.size)
    clear hb4
    go_wp2_with fail
    refine (HSG.out _).mono ?_
    rintro e w5 ⟨rfl, rfl⟩
    by_cases hok : o = k
    · have hok' := hok.symm
      clear hok
      subst hok'
      have HBZ : Hid (Below w.heap.size w w4) := HB4
      go_wp2_with fail
      refine (HY.out _).mono ?_
      rintro e w8 ⟨rfl, hb8⟩
      have HB8 : Hid (Below w.heap.size w w8) := HBZ.out.trans (hb8.mono HBZ.out.size)
      clear hb8
      go_wp2_with fail
      refine (HGX.out _).mono ?_
      rintro e w9 ⟨rfl, hb9⟩
      have HB9 : Hid (Below w.heap.size w w9) := HB8.out.trans (hb9.mono HB8.out.size)
      clear hb9
      go_wp2_with fail
      refine (HGS.out _).mono ?_
      rintro e w10 ⟨rfl, hb10⟩
      have HB10 : Hid (Below w.heap.size w w10) := HB9.out.trans (hb10.mono HB9.out.size)
      clear hb10
      go_wp2_with fail
      refine (implCount_any _ 0 (-1) _).mono ?_
      rw [HCN.out]
      rintro e w11 ⟨rfl, hb11⟩
      have HB11 : Hid (Below w.heap.size w w11) := HB10.out.trans (hb11.mono HB10.out.size)
      clear hb11
      go_wp2_with fail
      refine (implCount_any _ 0 (-1) _).mono ?_
      generalize cntV s 0 (-1) = m at *
      rintro e w12 ⟨rfl, hb12⟩
      have HB12 : Hid (Below w.heap.size w w12) := HB11.out.trans (hb12.mono HB11.out.size)
      clear hb12
      have q1 := HXS.out.2.1
      have q2 := HXS.out.2.2
      have q3 : (s.size : Int) ≤ (X.size : Int) := by omega
      have q4 : (k : Int) < 8 * (X.size : Int) := by omega
      go_wp2_with fail
      go_ret
      refine ⟨?_, HB12.out⟩
      have hX3 := HXS.out
      simp
      unfold wrap64
      omega
    · have e5 : ((o : Int) != (k : Int)) = true := by rw [bne_iff_ne]; omega
      have HE := HXO.out o ho3 hok
      have HE : Hid _ := HE
      clear hok
      go_wp2_with fail
      refine (implBitGet_any _ _ _).mono ?_
      rw [HE.out]
      rintro e w6 ⟨rfl, hb6⟩
      have HB6 : Hid (Below w.heap.size w w6) := HB4.out.trans (hb6.mono HB4.out.size)
      clear hb6 HE
      go_wp2_with fail
      refine (implBitGet_any _ _ _).mono ?_
      generalize getV s (o : Int) = n at *
      rintro e w7 ⟨rfl, hb7⟩
      have HBZ : Hid (Below w.heap.size w w7) := HB6.out.trans (hb7.mono HB6.out.size)
      clear hb7
      have e6 : (n != n) = false := by simp
      go_wp2_with fail
      refine (HY.out _).mono ?_
      rintro e w8 ⟨rfl, hb8⟩
      have HB8 : Hid (Below w.heap.size w w8) := HBZ.out.trans (hb8.mono HBZ.out.size)
      clear hb8
      go_wp2_with fail
      refine (HGX.out _).mono ?_
      rintro e w9 ⟨rfl, hb9⟩
      have HB9 : Hid (Below w.heap.size w w9) := HB8.out.trans (hb9.mono HB8.out.size)
      clear hb9
      go_wp2_with fail
      refine (HGS.out _).mono ?_
      rintro e w10 ⟨rfl, hb10⟩
      have HB10 : Hid (Below w.heap.size w w10) := HB9.out.trans (hb10.mono HB9.out.size)
      clear hb10
      go_wp2_with fail
      refine (implCount_any _ 0 (-1) _).mono ?_
      rw [HCN.out]
      rintro e w11 ⟨rfl, hb11⟩
      have HB11 : Hid (Below w.heap.size w w11) := HB10.out.trans (hb11.mono HB10.out.size)
      clear hb11
      go_wp2_with fail
      refine (implCount_any _ 0 (-1) _).mono ?_
      generalize cntV s 0 (-1) = m at *
      rintro e w12 ⟨rfl, hb12⟩
      have HB12 : Hid (Below w.heap.size w w12) := HB11.out.trans (hb12.mono HB11.out.size)
      clear hb12
      have q1 := HXS.out.2.1
      have q2 := HXS.out.2.2
      have q3 : (s.size : Int) ≤ (X.size : Int) := by omega
      have q4 : (k : Int) < 8 * (X.size : Int) := by omega
      go_wp2_with fail
      go_ret
      refine ⟨?_, HB12.out⟩
      have hX3 := HXS.out
      simp
      unfold wrap64
      omega

set_option maxRecDepth 100000 in
theorem lifted (os : Os) (started : os.Started) (H : Type) (enc : TypeId × Value → H) :
    ReturnsInHanded {} Try.checked os 3 .any (Rows.fnTextBitSpec.pre6 enc Try.prog Try.f3 Rows.fnTextBitRow.domain false) (Rows.fnTextBitSpec.post enc Try.prog Try.f3 false true false false) := by
  refine returnsInHanded_of_change (C := Try.checked) own started (by kernel_rfl) Try.func3
    (ChangeSpec.witness6 (enc := enc) (C := Try.checked) false ⟨#[], #[.slice none 0 0, .slice none 0 0], []⟩ 8 (by kernel_rfl) (by kernel_rfl) (by kernel_rfl) (by kernel_rfl)) ?_
  intro W base args ds gs before hval0 hW hcnd _
  have hval : ∀ (j : Nat) t v, Try.f3.params[j]? = some t → args[j]? = some v → Value.okWide Try.prog W .any base t v := hval0
  have hW' := hW
  obtain ⟨p, q, hA0, hV, rfl, hfz, hnd⟩ := hW
  have hA : DataW.TrodAll enc Try.prog W 0 (fun _ => true) true Try.f3.params.toList args.toList ds p := hA0
  rw [Try.params3] at hA hval
  obtain ⟨v0, vs0, d0, ds0, p0, q0, hargs, rfl, rfl, h0, r0⟩ := trodAll_cons hA
  obtain ⟨v1, vs1, d1, ds1, p1, q1, rfl, rfl, rfl, h1, r1⟩ := trodAll_cons r0
  obtain ⟨rfl, rfl, rfl⟩ := trodAll_nil r1
  obtain rfl : args = #[v0, v1] := by cases args; simp_all
  obtain ⟨rfl, rfl⟩ := trodVars_none hV
  obtain ⟨a0, len0, cap0, rfl⟩ := okWide_slice Try.underlying22 (hval 0 22 v0 rfl rfl)
  have k0 := h0
  have lt0 : ∀ x ∈ p0, x.block < W.heap.size := by obtain ⟨m, hm⟩ := k0; exact DataW.trod_lt m _ _ _ hm
  obtain ⟨z0, w0⟩ : ∃ zs, IsBytes W (.slice a0 len0 cap0) zs := by
    obtain ⟨fuel, hf⟩ := h0
    rcases open_ints Try.underlying22 Try.underlying5 (by kernel_rfl) hf with ⟨hcs, _⟩ | ⟨x, ln, cp, zs, hcs, _, hl, hm, hz, _, hcell, hwz⟩
    · exact bytes_of_none (by simpa [Value.cells] using hcs)
    · exact bytes_of_some (by simpa [Value.cells] using hcs) hl hm (by simpa using hz) hcell hwz
  obtain ⟨a1, len1, cap1, rfl⟩ := okWide_slice Try.underlying22 (hval 1 22 v1 rfl rfl)
  have k1 := h1
  have lt1 : ∀ x ∈ p1, x.block < W.heap.size := by obtain ⟨m, hm⟩ := k1; exact DataW.trod_lt m _ _ _ hm
  obtain ⟨z1, w1⟩ : ∃ zs, IsBytes W (.slice a1 len1 cap1) zs := by
    obtain ⟨fuel, hf⟩ := h1
    rcases open_ints Try.underlying22 Try.underlying5 (by kernel_rfl) hf with ⟨hcs, _⟩ | ⟨x, ln, cp, zs, hcs, _, hl, hm, hz, _, hcell, hwz⟩
    · exact bytes_of_none (by simpa [Value.cells] using hcs)
    · exact bytes_of_some (by simpa [Value.cells] using hcs) hl hm (by simpa using hz) hcell hwz
  clear hA0 hval0
  refine (walk (.slice a0 len0 cap0) z0 (.slice a1 len1 cap1) z1 W w0 w1).mono fun e W' ⟨he, bel⟩ => ?_
  subst he
  exact ⟨_, rfl, _, _, _, [], _, [], hW', trodAll_mk1 (shut_bool Try.underlying4 _), (trodAll_cons_mk (Below.trod laidOut (by kernel_rfl) (of_decide_eq_true (by kernel_rfl)) k0 bel lt0) (trodAll_cons_mk (Below.trod laidOut (by kernel_rfl) (of_decide_eq_true (by kernel_rfl)) k1 bel lt1) trodAll_mk0)), rfl, bel.frame _, fun h => by cases h⟩

theorem over : Rows.fnTextBitRow.holds Try.pinned (OpenSpec.ofChange Rows.fnTextBitSpec) :=
  OpenClaim.holds_of_wide 3 Try.f3 rfl rfl rfl rfl rfl rfl rfl ⟨rfl, rfl, rfl, rfl, rfl⟩ rfl rfl rfl rfl rfl (by kernel_rfl) Try.func3 (by kernel_rfl)
    (of_decide_eq_true (by kernel_rfl)) (by unfold Func.isWrapper; first | (rw [if_pos (by decide +kernel)]; kernel_rfl) | (rw [if_neg (by decide +kernel)]; exact ⟨rfl, rfl⟩))
    (fun os started H enc _ => lifted os started H enc)

theorem proved : Rows.FnTextBitSaid := over
end Go.Proofs.Ytnpkegmkmhambaa.fnTextBit
