/- Proved: of every drawn text and places, TextBitCount of two parts together is that of both, and how often TextBitGet is 1; it answers as its model. No condition. -/
import Derived.Test.YtnpkegmkmhambaaWdL
import Derived.Test.YtnpkegmkmhambaaWdK
import Derived.Test.YtnpkegmkmhambaaTk
import Derived.ProofKit
import Derived.OpenShut
import Derived.ShutString
import Derived.ChangeOld
import Derived.Below
namespace Go.Proofs.Ytnpkegmkmhambaa.fnTextBitCount
open Go.ChangeShapes Go.WideShapes Go.ChangeAt Go.RowKit
open Go.ChangeMaps (open_string shut_string)
open wd
set_option linter.unusedVariables false

theorem own : ownKnob Try.prog.godebug = none := by kernel_rfl
theorem laidOut : laidOutB Try.prog = true := by kernel_rfl

theorem byt_take {s : ByteArray} {a k : Nat} (ha : a ≤ s.size) (hk : k < a) : byt (s.extract 0 a) k = byt s k := by
  have h1 : k < (s.extract 0 a).size := by rw [ByteArray.size_extract]; omega
  rw [byt_in h1, byt_in (by omega : k < s.size)]
  congr 1
  have := ByteArray.getElem_extract h1
  simpa using this
theorem pcs_take {s : ByteArray} {a : Nat} (ha : a ≤ s.size) : ∀ n, n ≤ a → pcs (s.extract 0 a) 0 n = pcs s 0 n
  | 0, _ => rfl
  | n + 1, h => by rw [pcs, pcs, pcs_take ha n (by omega), Nat.zero_add, byt_take ha (by omega)]
/-- all ones -/
def onesN (s : ByteArray) : Nat := bsum s 0 (8 * s.size)
theorem ones_cut (s : ByteArray) {k : Nat} (hk : k ≤ s.size) : onesN (s.extract 0 k) + onesN (s.extract k s.size) = onesN s := by
  have e : ∀ q : ByteArray, onesN q = pcs q 0 q.size := fun q => by have := bsum_pcs q 0 q.size; rw [Nat.mul_zero] at this; exact this
  rw [e, e, e]
  have l1 : (s.extract 0 k).size = k := by rw [ByteArray.size_extract]; omega
  have l2 : (s.extract k s.size).size = s.size - k := by rw [ByteArray.size_extract]; omega
  rw [l1, l2, pcs_take hk k (Nat.le_refl _), pcs_cut s k s.size (Nat.le_refl _) _ (Nat.le_refl _)]
  have := pcs_add s 0 k (s.size - k)
  rw [Nat.zero_add, show k + (s.size - k) = s.size by omega] at this
  exact this.symm
theorem cntV_le (s : ByteArray) (f t : Int) (hs : s.size ≤ 40) : 0 ≤ cntV s f t ∧ cntV s f t ≤ (onesN s : Int) := by
  unfold cntV
  split
  · refine ⟨by omega, ?_⟩
    obtain ⟨hae, hen⟩ := ends_le (n := s.size) f t
    have e : onesN s = pcs s 0 s.size := by have := bsum_pcs s 0 s.size; rw [Nat.mul_zero] at this; exact this
    rw [e]
    generalize endA (s.size : Int) f t = a at *
    generalize endE (s.size : Int) f t = b at *
    have h1 := pcs_add s 0 a (b - a)
    have h2 := pcs_add s 0 (a + (b - a)) (s.size - (a + (b - a)))
    rw [Nat.zero_add] at h1 h2
    rw [show a + (b - a) + (s.size - (a + (b - a))) = s.size by omega] at h2
    omega
  · omega
set_option maxRecDepth 100000 in
set_option maxHeartbeats 8000000 in
theorem walk (v : Value) (zs : List Int) (v2 : Value) (ys : List Int) (w : World) (h : IsBytes w v zs) (h2 : IsBytes w v2 ys) :
    Calls Try.prog 4 #[v, v2] w fun e w' => e = .returned (.bool true) ∧ Below w.heap.size w w' := by
  have hI := h
  obtain ⟨ao, cap, rfl, hlc, hcm, hzb, hz⟩ := h
  obtain ⟨ao2, cap2, rfl, hlc2, hcm2, hzb2, hz2⟩ := h2
  unfold maxLen at hcm hcm2
  clear hz hzb hz2 hzb2
  rcases Int.lt_or_le (1048576 : Int) (zs.length : Int) with hx | hx
  · go_enter Try.func4, Try.ntmps4
    go_wp2_with fail
    go_ret
    exact ⟨rfl, Below.refl _ _⟩
  rcases Int.lt_or_le (1048576 : Int) (ys.length : Int) with hy | hy
  · have hx' : decide ((1048576 : Int) < (zs.length : Int)) = false := decide_eq_false (by omega)
    go_enter Try.func4, Try.ntmps4
    go_wp2_with fail
    go_ret
    exact ⟨rfl, Below.refl _ _⟩
  have hx' : decide ((1048576 : Int) < (zs.length : Int)) = false := decide_eq_false (by omega)
  have hy' : decide ((1048576 : Int) < (ys.length : Int)) = false := decide_eq_false (by omega)
  go_enter Try.func4, Try.ntmps4
  go_wp2_with fail
  refine (drawCount_any _ zs _ hI).mono ?_
  rintro e w1 ⟨s, f, t, rfl, hs41, HB1⟩
  clear hI hlc hcm hx' hy'
  go_wp2_with fail
  refine (implCount_any s f t _).mono ?_
  rintro e w2 ⟨rfl, hb2⟩
  have HB2 := HB1.trans (hb2.mono HB1.size)
  clear hb2 HB1
  have HC : Hid (∀ hs : s.size ≤ 40, 0 ≤ cntV s f t ∧ cntV s f t ≤ (onesN s : Int)) := fun hs => cntV_le s f t hs
  have HSC : Hid (∀ W, Calls Try.prog 13 #[.string s, .int .i64 f, .int .i64 t] W fun e w' => e = .returned (.int .i64 (cntV s f t)) ∧ W = w') := fun W => specCount_all s f t W
  generalize cntV s f t = n at *
  go_wp2_with fail
  refine (HSC.out _).mono ?_
  rintro e w3 ⟨rfl, rfl⟩
  have e1 : (n != n) = false := by simp
  by_cases hs : s.size ≤ 40
  · have hd40 : decide ((40 : Int) < (s.size : Int)) = false := decide_eq_false (by omega)
    obtain ⟨k, hk⟩ : ∃ k : Nat, ys.length % (s.size + 1) = k := ⟨_, rfl⟩
    have hkl : k ≤ s.size := by have := Nat.mod_lt ys.length (show 0 < s.size + 1 by omega); rw [hk] at this; omega
    have hkI : (ys.length : Int).tmod ((s.size : Int) + 1) = (k : Int) := by
      rw [show ((s.size : Int) + 1) = ((s.size + 1 : Nat) : Int) by omega, ← Int.ofNat_tmod, hk]
    have hkI2 : (ys.length : Int) % ((s.size : Int) + 1) = (k : Int) := by
      rw [show ((s.size : Int) + 1) = ((s.size + 1 : Nat) : Int) by omega, ← Int.natCast_emod, hk]
    have hne : ((s.size : Int) + 1 == 0) = false := by rw [beq_eq_false_iff_ne]; omega
    have HCUT := ones_cut s hkl
    have HO : Hid (cntV s 0 (-1) = (onesN s : Int)) := cntV_all hs
    have HCUT : Hid _ := HCUT
    clear hk hs41
    go_wp2_with fail
    refine (implCount_any s 0 (-1) _).mono ?_
    rw [HO.out]
    rintro e w4 ⟨rfl, hb4⟩
    have HB4 : Hid (Below w.heap.size w w4) := HB2.trans (hb4.mono HB2.size)
    clear hb4 HB2
    go_wp2_with fail
    clear hkI hkI2 hne hd40 e1
    have HC2 := HC.out hs
    have HCC : Hid _ := HC2
    clear HC2 HC HSC
    go_loopw [11, 12] (fun o i wr => ∃ j : Nat, j ≤ 8 * s.size ∧ i = .int .i64 (j : Int) ∧ o = .int .i64 (bsum s 0 j : Int) ∧ Hid (Below w.heap.size w wr)) (fun _ i _ => 8 * s.size - (intOf i).toNat)
    case atStart => exact ⟨0, Nat.zero_le _, rfl, rfl, HB4⟩
    case round =>
      obtain ⟨j, hj, rfl, rfl, HB⟩ := hrel
      clear HB4
      by_cases hlt : j < 8 * s.size
      · have hi : (j : Int) < 8 * (s.size : Int) := by omega
        have hg := getV_bit hs hlt
        have HG : Hid _ := hg
        have hbl := bit_lt s j
        have hbs := bsum_le s 0 j
        have HSN : Hid (bsum s 0 (j + 1) = bsum s 0 j + bit s j) := by show _ = _; rw [bsum, Nat.zero_add]
        generalize bsum s 0 j = o at *
        clear hg
        go_wp2_with fail
        refine (implBitGet_any s (j : Int) _).mono ?_
        rw [HG.out]
        rintro e w5 ⟨rfl, hb5⟩
        have HB5 : Hid (Below w.heap.size w w5) := HB.out.trans (hb5.mono HB.out.size)
        clear hb5 HG
        generalize bit s j = bj at *
        go_wp2_with fail
        go_roundw
        case rel => exact ⟨j + 1, by omega, by go_num, by rw [HSN.out]; go_num, HB5⟩
        case measure => simp [intOf]; omega
      · have hi : ¬ (j : Int) < 8 * (s.size : Int) := by omega
        obtain rfl : j = 8 * s.size := by omega
        have HON : Hid ((bsum s 0 (8 * s.size) : Int) = (onesN s : Int)) := rfl
        rw [HON.out]
        have l1 : (s.extract 0 k).size ≤ 40 := by rw [ByteArray.size_extract]; omega
        have l2 : (s.extract k s.size).size ≤ 40 := by rw [ByteArray.size_extract]; omega
        have K1 : Hid (cntV (s.extract 0 k) 0 (-1) = (onesN (s.extract 0 k) : Int)) := cntV_all l1
        have K2 : Hid (cntV (s.extract k s.size) 0 (-1) = (onesN (s.extract k s.size) : Int)) := cntV_all l2
        have hle : onesN s ≤ 320 := by have := bsum_le s 0 (8 * s.size); unfold onesN; omega
        have hsum : IntKind.i64.wrap ((onesN (s.extract 0 k) : Int) + (onesN (s.extract k s.size) : Int)) = (onesN s : Int) := by
          have := HCUT.out
          rw [← this]
          unfold IntKind.wrap; simp [IntKind.signed, IntKind.bits]; omega
        have t1 : decide ((0 : Int) ≤ n) = true := decide_eq_true HCC.out.1
        have t2 : decide (n ≤ (onesN s : Int)) = true := decide_eq_true HCC.out.2
        have t3 : (((onesN s : Int)) == (onesN s : Int)) = true := by simp
        have k0 : (0 : Int) ≤ (k : Int) := by omega
        have k1 : (k : Int) ≤ (s.size : Int) := by omega
        clear l1 l2 hle HON hi
        go_wp2_with fail
        refine wp_region_held_drew (S := (fun w' => Below w.heap.size w w')) (by kernel_rfl) (by exact HB.out.drew) (fun hHeld => ?_)
        refine takeH (i := 0) (d := (some 68)) (v := ?_) rfl rfl (by kernel_rfl) (by kernel_rfl) (by kernel_rfl) (fun _ _ _ h => h) (by kernel_rfl) ?_ (by assumption) ?_
        rotate_left
        · (intro w hSw; (try dsimp only at hSw); go_simp; try with_reducible rfl)
        try simp only [Act.put, List.setIfInBounds_toArray, List.set_cons_succ, List.set_cons_zero]
        refine takeH (i := 1) (d := (some 69)) (v := ?_) rfl rfl (by kernel_rfl) (by kernel_rfl) (by kernel_rfl) (fun _ _ _ h => h) (by kernel_rfl) ?_ (by assumption) ?_
        rotate_left
        · (intro w hSw; (try dsimp only at hSw); go_simp; try with_reducible rfl)
        try simp only [Act.put, List.setIfInBounds_toArray, List.set_cons_succ, List.set_cons_zero]
        refine takeH (i := 2) (d := (some 70)) (v := ?_) rfl rfl (by kernel_rfl) (by kernel_rfl) (by kernel_rfl) (fun _ _ _ h => h) (by kernel_rfl) ?_ (by assumption) ?_
        rotate_left
        · (intro w hSw; (try dsimp only at hSw); go_simp; try with_reducible rfl)
        try simp only [Act.put, List.setIfInBounds_toArray, List.set_cons_succ, List.set_cons_zero]
        refine takeH (i := 4) (d := (some 72)) (v := ?_) rfl rfl (by kernel_rfl) (by kernel_rfl) (by kernel_rfl) (fun _ _ _ h => h) (by kernel_rfl) ?_ (by assumption) ?_
        rotate_left
        · (intro w hSw; (try dsimp only at hSw); go_simp; try with_reducible rfl)
        try simp only [Act.put, List.setIfInBounds_toArray, List.set_cons_succ, List.set_cons_zero]
        refine takeH (i := 5) (d := (some 73)) (v := ?_) rfl rfl (by kernel_rfl) (by kernel_rfl) (by kernel_rfl) (fun _ _ _ h => h) (by kernel_rfl) ?_ (by assumption) ?_
        rotate_left
        · (intro w hSw; (try dsimp only at hSw); go_simp; try with_reducible rfl)
        try simp only [Act.put, List.setIfInBounds_toArray, List.set_cons_succ, List.set_cons_zero]
        refine takeH (i := 6) (d := (some 74)) (v := ?_) rfl rfl (by kernel_rfl) (by kernel_rfl) (by kernel_rfl) (fun _ _ _ h => h) (by kernel_rfl) ?_ (by assumption) ?_
        rotate_left
        · (intro w hSw; (try dsimp only at hSw); go_simp; try with_reducible rfl)
        try simp only [Act.put, List.setIfInBounds_toArray, List.set_cons_succ, List.set_cons_zero]
        refine takeH (i := 9) (d := (some 77)) (v := ?_) rfl rfl (by kernel_rfl) (by kernel_rfl) (by kernel_rfl) (fun _ _ _ h => h) (by kernel_rfl) ?_ (by assumption) ?_
        rotate_left
        · (intro w hSw; (try dsimp only at hSw); go_simp; try with_reducible rfl)
        try simp only [Act.put, List.setIfInBounds_toArray, List.set_cons_succ, List.set_cons_zero]
        refine wpAnyH_ready (rs := [3]) (by kernel_rfl) (by simp) ?_
        refine AllReadyH.cons rfl (fun K hK => ?_) AllReadyH.nil
        go_simp
        refine (implCount_any (s.extract 0 k) 0 (-1) _).mono ?_; rw [K1.out]; rintro e w5 ⟨he, hb5⟩; subst he; have h5 := hHeld.trans (hb5.mono hHeld.size)
        refine hK.out _ _ ?_ (fun hHeld => ?_)
        · exact h5
        clear hK K
        try simp only [Act.put, List.setIfInBounds_toArray, List.set_cons_succ, List.set_cons_zero]
        refine wpAnyH_ready (rs := [7]) (by kernel_rfl) (by simp) ?_
        refine AllReadyH.cons rfl (fun K hK => ?_) AllReadyH.nil
        go_simp
        refine (implCount_any (s.extract k s.size) 0 (-1) _).mono ?_; rw [K2.out]; rintro e w6 ⟨he, hb6⟩; subst he; have h6 := h5.trans (hb6.mono h5.size)
        refine hK.out _ _ ?_ (fun hHeld => ?_)
        · exact h6
        clear hK K
        try simp only [Act.put, List.setIfInBounds_toArray, List.set_cons_succ, List.set_cons_zero]
        refine takeH (i := 8) (d := (some 76)) (v := ?_) rfl rfl (by kernel_rfl) (by kernel_rfl) (by kernel_rfl) (fun _ _ _ h => h) (by kernel_rfl) ?_ (by assumption) ?_
        rotate_left
        · (intro w hSw; (try dsimp only at hSw); go_simp; try with_reducible rfl)
        try simp only [Act.put, List.setIfInBounds_toArray, List.set_cons_succ, List.set_cons_zero]
        refine takeH (i := 10) (d := (some 78)) (v := ?_) rfl rfl (by kernel_rfl) (by kernel_rfl) (by kernel_rfl) (fun _ _ _ h => h) (by kernel_rfl) ?_ (by assumption) ?_
        rotate_left
        · (intro w hSw; (try dsimp only at hSw); go_simp; try with_reducible rfl)
        try simp only [Act.put, List.setIfInBounds_toArray, List.set_cons_succ, List.set_cons_zero]
        refine takeH (i := 11) (d := (some 79)) (v := ?_) rfl rfl (by kernel_rfl) (by kernel_rfl) (by kernel_rfl) (fun _ _ _ h => h) (by kernel_rfl) ?_ (by assumption) ?_
        rotate_left
        · (intro w hSw; (try dsimp only at hSw); go_simp; try with_reducible rfl)
        try simp only [Act.put, List.setIfInBounds_toArray, List.set_cons_succ, List.set_cons_zero]
        refine takeH (i := 12) (d := (some 80)) (v := ?_) rfl rfl (by kernel_rfl) (by kernel_rfl) (by kernel_rfl) (fun _ _ _ h => h) (by kernel_rfl) ?_ (by assumption) ?_
        rotate_left
        · (intro w hSw; (try dsimp only at hSw); go_simp; try with_reducible rfl)
        try simp only [Act.put, List.setIfInBounds_toArray, List.set_cons_succ, List.set_cons_zero]
        refine takeH (i := 13) (d := (some 81)) (v := ?_) rfl rfl (by kernel_rfl) (by kernel_rfl) (by kernel_rfl) (fun _ _ _ h => h) (by kernel_rfl) ?_ (by assumption) ?_
        rotate_left
        · (intro w hSw; (try dsimp only at hSw); go_simp; try with_reducible rfl)
        try simp only [Act.put, List.setIfInBounds_toArray, List.set_cons_succ, List.set_cons_zero]
        refine takeH (i := 14) (d := (some 82)) (v := ?_) rfl rfl (by kernel_rfl) (by kernel_rfl) (by kernel_rfl) (fun _ _ _ h => h) (by kernel_rfl) ?_ (by assumption) ?_
        rotate_left
        · (intro w hSw; (try dsimp only at hSw); go_simp; try with_reducible rfl)
        try simp only [Act.put, List.setIfInBounds_toArray, List.set_cons_succ, List.set_cons_zero]
        refine takeH (i := 15) (d := (some 83)) (v := ?_) rfl rfl (by kernel_rfl) (by kernel_rfl) (by kernel_rfl) (fun _ _ _ h => h) (by kernel_rfl) ?_ (by assumption) ?_
        rotate_left
        · (intro w hSw; (try dsimp only at hSw); go_simp; try with_reducible rfl)
        try simp only [Act.put, List.setIfInBounds_toArray, List.set_cons_succ, List.set_cons_zero]
        refine takeH (i := 16) (d := (some 84)) (v := ?_) rfl rfl (by kernel_rfl) (by kernel_rfl) (by kernel_rfl) (fun _ _ _ h => h) (by kernel_rfl) ?_ (by assumption) ?_
        rotate_left
        · (intro w hSw; (try dsimp only at hSw); go_simp; try with_reducible rfl)
        try simp only [Act.put, List.setIfInBounds_toArray, List.set_cons_succ, List.set_cons_zero]
        refine takeH (i := 17) (d := (some 85)) (v := ?_) rfl rfl (by kernel_rfl) (by kernel_rfl) (by kernel_rfl) (fun _ _ _ h => h) (by kernel_rfl) ?_ (by assumption) ?_
        rotate_left
        · (intro w hSw; (try dsimp only at hSw); go_simp; try with_reducible rfl)
        try simp only [Act.put, List.setIfInBounds_toArray, List.set_cons_succ, List.set_cons_zero]
        refine takeH (i := 18) (d := (some 86)) (v := ?_) rfl rfl (by kernel_rfl) (by kernel_rfl) (by kernel_rfl) (fun _ _ _ h => h) (by kernel_rfl) ?_ (by assumption) ?_
        rotate_left
        · (intro w hSw; (try dsimp only at hSw); go_simp; try with_reducible rfl)
        try simp only [Act.put, List.setIfInBounds_toArray, List.set_cons_succ, List.set_cons_zero]
        refine takeH (i := 19) (d := (some 87)) (v := ?_) rfl rfl (by kernel_rfl) (by kernel_rfl) (by kernel_rfl) (fun _ _ _ h => h) (by kernel_rfl) ?_ (by assumption) ?_
        rotate_left
        · (intro w hSw; (try dsimp only at hSw); go_simp; try with_reducible rfl)
        try simp only [Act.put, List.setIfInBounds_toArray, List.set_cons_succ, List.set_cons_zero]
        refine takeH (i := 20) (d := (some 88)) (v := ?_) rfl rfl (by kernel_rfl) (by kernel_rfl) (by kernel_rfl) (fun _ _ _ h => h) (by kernel_rfl) ?_ (by assumption) ?_
        rotate_left
        · (intro w hSw; (try dsimp only at hSw); go_simp; try with_reducible rfl)
        try simp only [Act.put, List.setIfInBounds_toArray, List.set_cons_succ, List.set_cons_zero]
        refine takeH (i := 21) (d := (some 89)) (v := ?_) rfl rfl (by kernel_rfl) (by kernel_rfl) (by kernel_rfl) (fun _ _ _ h => h) (by kernel_rfl) ?_ (by assumption) ?_
        rotate_left
        · (intro w hSw; (try dsimp only at hSw); go_simp; try with_reducible rfl)
        try simp only [Act.put, List.setIfInBounds_toArray, List.set_cons_succ, List.set_cons_zero]
        refine takeH (i := 22) (d := (some 90)) (v := ?_) rfl rfl (by kernel_rfl) (by kernel_rfl) (by kernel_rfl) (fun _ _ _ h => h) (by kernel_rfl) ?_ (by assumption) ?_
        rotate_left
        · (intro w hSw; (try dsimp only at hSw); go_simp; try with_reducible rfl)
        try simp only [Act.put, List.setIfInBounds_toArray, List.set_cons_succ, List.set_cons_zero]
        refine takeH (i := 23) (d := (some 91)) (v := ?_) rfl rfl (by kernel_rfl) (by kernel_rfl) (by kernel_rfl) (fun _ _ _ h => h) (by kernel_rfl) ?_ (by assumption) ?_
        rotate_left
        · (intro w hSw; (try dsimp only at hSw); go_simp; try with_reducible rfl)
        try simp only [Act.put, List.setIfInBounds_toArray, List.set_cons_succ, List.set_cons_zero]
        refine takeH (i := 24) (d := (some 92)) (v := ?_) rfl rfl (by kernel_rfl) (by kernel_rfl) (by kernel_rfl) (fun _ _ _ h => h) (by kernel_rfl) ?_ (by assumption) ?_
        rotate_left
        · (intro w hSw; (try dsimp only at hSw); go_simp; try with_reducible rfl)
        try simp only [Act.put, List.setIfInBounds_toArray, List.set_cons_succ, List.set_cons_zero]
        refine takeH (i := 25) (d := (some 4)) (v := ?_) rfl rfl (by kernel_rfl) (by kernel_rfl) (by kernel_rfl) (fun _ _ _ h => h) (by kernel_rfl) ?_ (by assumption) ?_
        rotate_left
        · (intro w hSw; (try dsimp only at hSw); go_simp; try with_reducible rfl)
        try simp only [Act.put, List.setIfInBounds_toArray, List.set_cons_succ, List.set_cons_zero]
        refine wpAnyH_done (by kernel_rfl) ?_ _
        go_wp2_with fail
        go_ret
        exact ⟨rfl, h6⟩
  · have hd40 : decide ((40 : Int) < (s.size : Int)) = true := decide_eq_true (by omega)
    go_wp2_with fail
    refine (HSC.out _).mono ?_
    rintro e w4 ⟨rfl, rfl⟩
    go_wp2_with fail
    go_ret
    exact ⟨rfl, HB2⟩

set_option maxRecDepth 100000 in
theorem lifted (os : Os) (started : os.Started) (H : Type) (enc : TypeId × Value → H) :
    ReturnsInHanded {} Try.checked os 4 .any (Rows.fnTextBitCountSpec.pre6 enc Try.prog Try.f4 Rows.fnTextBitCountRow.domain false) (Rows.fnTextBitCountSpec.post enc Try.prog Try.f4 false true false false) := by
  refine returnsInHanded_of_change (C := Try.checked) own started (by kernel_rfl) Try.func4
    (ChangeSpec.witness6 (enc := enc) (C := Try.checked) false ⟨#[], #[.slice none 0 0, .slice none 0 0], []⟩ 8 (by kernel_rfl) (by kernel_rfl) (by kernel_rfl) (by kernel_rfl)) ?_
  intro W base args ds gs before hval0 hW hcnd _
  have hval : ∀ (j : Nat) t v, Try.f4.params[j]? = some t → args[j]? = some v → Value.okWide Try.prog W .any base t v := hval0
  have hW' := hW
  obtain ⟨p, q, hA0, hV, rfl, hfz, hnd⟩ := hW
  have hA : DataW.TrodAll enc Try.prog W 0 (fun _ => true) true Try.f4.params.toList args.toList ds p := hA0
  rw [Try.params4] at hA hval
  obtain ⟨v0, vs0, d0, ds0, p0, q0, hargs, rfl, rfl, h0, r0⟩ := trodAll_cons hA
  obtain ⟨v1, vs1, d1, ds1, p1, q1, rfl, rfl, rfl, h1, r1⟩ := trodAll_cons r0
  obtain ⟨rfl, rfl, rfl⟩ := trodAll_nil r1
  obtain rfl : args = #[v0, v1] := by cases args; simp_all
  obtain ⟨rfl, rfl⟩ := trodVars_none hV
  obtain ⟨a0, len0, cap0, rfl⟩ := okWide_slice Try.underlying22 (hval 0 22 v0 rfl rfl)
  have k0 := h0
  have lt0 : ∀ x ∈ p0, x.block < W.heap.size := by obtain ⟨m, hm⟩ := k0; exact DataW.trod_lt m _ _ _ hm
  obtain ⟨z0, w0⟩ : ∃ zs, IsBytes W (.slice a0 len0 cap0) zs := by
    obtain ⟨fuel, hf⟩ := h0
    rcases open_ints Try.underlying22 Try.underlying5 (by kernel_rfl) hf with ⟨hcs, _⟩ | ⟨x, ln, cp, zs, hcs, _, hl, hm, hz, _, hcell, hwz⟩
    · exact bytes_of_none (by simpa [Value.cells] using hcs)
    · exact bytes_of_some (by simpa [Value.cells] using hcs) hl hm (by simpa using hz) hcell hwz
  obtain ⟨a1, len1, cap1, rfl⟩ := okWide_slice Try.underlying22 (hval 1 22 v1 rfl rfl)
  have k1 := h1
  have lt1 : ∀ x ∈ p1, x.block < W.heap.size := by obtain ⟨m, hm⟩ := k1; exact DataW.trod_lt m _ _ _ hm
  obtain ⟨z1, w1⟩ : ∃ zs, IsBytes W (.slice a1 len1 cap1) zs := by
    obtain ⟨fuel, hf⟩ := h1
    rcases open_ints Try.underlying22 Try.underlying5 (by kernel_rfl) hf with ⟨hcs, _⟩ | ⟨x, ln, cp, zs, hcs, _, hl, hm, hz, _, hcell, hwz⟩
    · exact bytes_of_none (by simpa [Value.cells] using hcs)
    · exact bytes_of_some (by simpa [Value.cells] using hcs) hl hm (by simpa using hz) hcell hwz
  clear hA0 hval0
  refine (walk (.slice a0 len0 cap0) z0 (.slice a1 len1 cap1) z1 W w0 w1).mono fun e W' ⟨he, bel⟩ => ?_
  subst he
  exact ⟨_, rfl, _, _, _, [], _, [], hW', trodAll_mk1 (shut_bool Try.underlying4 _), (trodAll_cons_mk (Below.trod laidOut (by kernel_rfl) (of_decide_eq_true (by kernel_rfl)) k0 bel lt0) (trodAll_cons_mk (Below.trod laidOut (by kernel_rfl) (of_decide_eq_true (by kernel_rfl)) k1 bel lt1) trodAll_mk0)), rfl, bel.frame _, fun h => by cases h⟩

theorem over : Rows.fnTextBitCountRow.holds Try.pinned (OpenSpec.ofChange Rows.fnTextBitCountSpec) :=
  OpenClaim.holds_of_wide 4 Try.f4 rfl rfl rfl rfl rfl rfl rfl ⟨rfl, rfl, rfl, rfl, rfl⟩ rfl rfl rfl rfl rfl (by kernel_rfl) Try.func4 (by kernel_rfl)
    (of_decide_eq_true (by kernel_rfl)) (by unfold Func.isWrapper; first | (rw [if_pos (by decide +kernel)]; kernel_rfl) | (rw [if_neg (by decide +kernel)]; exact ⟨rfl, rfl⟩))
    (fun os started H enc _ => lifted os started H enc)

theorem proved : Rows.FnTextBitCountSaid := over
end Go.Proofs.Ytnpkegmkmhambaa.fnTextBitCount
