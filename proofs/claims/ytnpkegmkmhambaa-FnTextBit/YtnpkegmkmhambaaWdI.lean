/- Get, Find and Count of bits: the model's, and both together. -/
import Derived.Test.YtnpkegmkmhambaaWdD
import Derived.Test.YtnpkegmkmhambaaWdF
import Derived.Test.YtnpkegmkmhambaaWdH
namespace Go.Proofs.Ytnpkegmkmhambaa
open Go.RowKit wd
set_option linter.unusedVariables false

theorem wIn_any (n a b : Int) (w : World) : Calls Try.prog 24 #[.int .i64 n, .int .i64 a, .int .i64 b] w fun e w' => e = .returned (.bool (decide (a ≤ n) && decide (n ≤ b))) ∧ w = w' := by
  by_cases h1 : a ≤ n
  · have HD : Hid (decide (a ≤ n) = true) := decide_eq_true h1
    go_enter Try.func24, Try.ntmps24
    go_wp2_with fail
    go_ret
    exact ⟨wret_b (by rw [HD.out, Bool.true_and]), rfl⟩
  · have HD : Hid (decide (a ≤ n) = false) := decide_eq_false h1
    go_enter Try.func24, Try.ntmps24
    go_wp2_with fail
    go_ret
    exact ⟨wret_b (by rw [HD.out, Bool.false_and]), rfl⟩

def okF (s : ByteArray) (b : Int) : Prop := s.size ≤ 40 ∧ s.size ≠ 0 ∧ 0 ≤ b ∧ b ≤ 1
theorem empty_eq {s : ByteArray} (h : s.size = 0) : (s.toList == []) = true := by
  rw [Lib.toList_data, beq_iff_eq]
  exact List.eq_nil_of_length_eq_zero (by simpa using h)
theorem empty_ne {s : ByteArray} (h0 : s.size ≠ 0) : (s.toList == []) = false := by
  rw [beq_eq_false_iff_ne]
  intro e
  have := congrArg List.length e
  rw [Lib.toList_data] at this
  have h2 : s.data.toList.length = s.size := by simp
  rw [h2] at this
  exact h0 this
theorem okF_cases {s : ByteArray} {b : Int} (h : ¬ okF s b) : s.size = 0 ∨ (s.size ≠ 0 ∧ 40 < s.size) ∨ (s.size ≠ 0 ∧ s.size ≤ 40 ∧ (decide (b = 0) || decide (b = 1)) = false ∧ (decide (0 ≤ b) && decide (b ≤ 1)) = false) := by
  by_cases h0 : s.size = 0
  · exact .inl h0
  · by_cases h1 : s.size ≤ 40
    · refine .inr (.inr ⟨h0, h1, ?_, ?_⟩)
      · rw [Bool.or_eq_false_iff]
        exact ⟨decide_eq_false (fun e => h ⟨h1, h0, by omega, by omega⟩), decide_eq_false (fun e => h ⟨h1, h0, by omega, by omega⟩)⟩
      · rw [Bool.and_eq_false_iff]
        by_cases hb : 0 ≤ b
        · exact .inr (decide_eq_false (fun e => h ⟨h1, h0, hb, e⟩))
        · exact .inl (decide_eq_false hb)
    · exact .inr (.inl ⟨h0, by omega⟩)
set_option maxRecDepth 100000 in
set_option maxHeartbeats 4000000 in
theorem implNoF_any (s : ByteArray) (b : Int) (w : World) (h : ¬ okF s b) :
    Calls Try.prog 15 #[.string s, .int .i64 b] w fun e w' => e = .returned (.int .i64 (-1)) ∧ Below w.heap.size w w' := by
  have hB : Below w.heap.size w ((w.alloc (.cells #[.int .i64 b] 3)).alloc (.cells #[.int .i64 (-1)] 3)) := ((Below.refl _ w).alloc (Nat.le_refl _) _).alloc (by simp) _
  have HB : Hid _ := hB
  clear hB
  rcases okF_cases h with h0 | ⟨h0, h1⟩ | ⟨h0, h1, h2, _⟩
  · have e := empty_eq h0
    clear h h0
    go_enter Try.func15, Try.ntmps15
    go_wp2_with fail
    refine bodyPost_ret (v := .int .i64 (-1)) ?_ rfl ⟨rfl, HB.out⟩
    simp [results, Try.f15, go_sem]
  · have e := empty_ne h0
    have h40 : (40 : Int) < (s.size : Int) := by omega
    clear h h0 h1
    go_enter Try.func15, Try.ntmps15
    go_wp2_with fail
    refine bodyPost_ret (v := .int .i64 (-1)) ?_ rfl ⟨rfl, HB.out⟩
    simp [results, Try.f15, go_sem]
  · have e := empty_ne h0
    have hd40 : decide ((40 : Int) < (s.size : Int)) = false := decide_eq_false (by omega)
    clear h h0 h1
    go_enter Try.func15, Try.ntmps15
    go_wp2_with (go_at_call 21; refine (bitOk_any _ _).mono ?_; rw [h2]; rintro e w' ⟨rfl, rfl⟩)
    refine bodyPost_ret (v := .int .i64 (-1)) ?_ rfl ⟨rfl, HB.out⟩
    simp [results, Try.f15, go_sem]
set_option maxRecDepth 100000 in
set_option maxHeartbeats 4000000 in
theorem specNoF_any (s : ByteArray) (b : Int) (w : World) (h : ¬ okF s b) :
    Calls Try.prog 16 #[.string s, .int .i64 b] w fun e w' => e = .returned (.int .i64 (-1)) ∧ w = w' := by
  rcases okF_cases h with h0 | ⟨h0, h1⟩ | ⟨h0, h1, _, h2⟩
  · have hd40 : decide ((40 : Int) < (s.size : Int)) = false := decide_eq_false (by omega)
    have e : ((s.size : Int) == 0) = true := by rw [h0]; rfl
    clear h h0
    go_enter Try.func16, Try.ntmps16
    go_wp2_with fail
    go_ret
    exact ⟨rfl, rfl⟩
  · have h40 : (40 : Int) < (s.size : Int) := by omega
    clear h h0 h1
    go_enter Try.func16, Try.ntmps16
    go_wp2_with fail
    go_ret
    exact ⟨rfl, rfl⟩
  · have e : ((s.size : Int) == 0) = false := by rw [beq_eq_false_iff_ne]; omega
    have hd40 : decide ((40 : Int) < (s.size : Int)) = false := decide_eq_false (by omega)
    clear h h0 h1
    go_enter Try.func16, Try.ntmps16
    go_wp2_with (go_at_call 24; refine (wIn_any _ _ _ _).mono ?_; rw [h2]; rintro e w' ⟨rfl, rfl⟩)
    go_ret
    exact ⟨rfl, rfl⟩
set_option maxRecDepth 100000 in
set_option maxHeartbeats 4000000 in
theorem specFind_any (s : ByteArray) (c : Nat) (hc : c = 0 ∨ c = 1) (hs : s.size ≤ 40) (h0 : s.size ≠ 0) (w : World) :
    Calls Try.prog 16 #[.string s, .int .i64 (c : Int)] w fun e w' => (∃ r, e = .returned (.int .i64 r) ∧ FindR s c r) ∧ w = w' := by
  have e : ((s.size : Int) == 0) = false := by rw [beq_eq_false_iff_ne]; omega
  have hd40 : decide ((40 : Int) < (s.size : Int)) = false := decide_eq_false (by omega)
  have h2 : (decide ((0 : Int) ≤ (c : Int)) && decide ((c : Int) ≤ 1)) = true := by rcases hc with rfl | rfl <;> decide
  have H0 : Hid (s.size ≠ 0) := h0
  clear h0
  go_enter Try.func16, Try.ntmps16
  go_wp2_with (go_at_call 24; refine (wIn_any _ _ _ _).mono ?_; rw [h2]; rintro e w' ⟨rfl, rfl⟩)
  clear h2 e hd40
  go_loopw [5] (fun i wr => ∃ j : Nat, j ≤ 8 * s.size ∧ i = .int .i64 (j : Int) ∧ Hid (∀ k, k < j → bit s k ≠ c) ∧ w = wr) (fun i _ => 8 * s.size - (intOf i).toNat)
  case atStart => exact ⟨0, Nat.zero_le _, rfl, fun k hk => by omega, rfl⟩
  case round =>
    obtain ⟨j, hj, rfl, hno, rfl⟩ := hrel
    by_cases hlt : j < 8 * s.size
    · have hi : (j : Int) < 8 * (s.size : Int) := by omega
      have hb : j ≤ 1000000000 := by omega
      by_cases hbit : bit s j = c
      · have hq : ((bit s j : Int) == (c : Int)) = true := by rw [hbit]; simp
        have HQ : Hid (FindR s c (j : Int)) := .inl ⟨j, rfl, hlt, hbit, hno.out⟩
        clear hbit
        go_wp2_with (go_at_call 25; refine (l8Get_any _ _ _ hb).mono ?_; rintro e w' ⟨rfl, rfl⟩)
        go_ret
        exact ⟨⟨_, rfl, HQ.out⟩, rfl⟩
      · have hq : ((bit s j : Int) == (c : Int)) = false := by rw [beq_eq_false_iff_ne]; omega
        have HQ : Hid (bit s j ≠ c) := hbit
        clear hbit
        go_wp2_with (go_at_call 25; refine (l8Get_any _ _ _ hb).mono ?_; rintro e w' ⟨rfl, rfl⟩)
        go_roundw
        case rel => exact ⟨j + 1, by omega, by go_num, fun k hk => by
          by_cases e : k = j
          · rw [e]; exact HQ.out
          · exact hno.out k (by omega), trivial⟩
        case measure => simp [intOf]; omega
    · have hi : ¬ (j : Int) < 8 * (s.size : Int) := by omega
      obtain rfl : j = 8 * s.size := by omega
      rcases hc with rfl | rfl
      · have HQ : Hid (FindR s 0 (8 * (s.size : Int))) := .inr ⟨hno.out, by rw [if_pos rfl]; omega⟩
        clear hno
        go_wp2_with fail
        go_ret
        exact ⟨⟨_, rfl, HQ.out⟩, rfl⟩
      · have HQ : Hid (FindR s 1 (-1)) := .inr ⟨hno.out, by rw [if_neg (by decide)]⟩
        clear hno
        go_wp2_with fail
        go_ret
        exact ⟨⟨_, rfl, HQ.out⟩, rfl⟩

theorem bothF (s : ByteArray) (b : Int) : ∃ v : Int, (∀ W, Calls Try.prog 16 #[.string s, .int .i64 b] W fun e w' => e = .returned (.int .i64 v) ∧ W = w') ∧ (∀ W, Calls Try.prog 15 #[.string s, .int .i64 b] W fun e w' => e = .returned (.int .i64 v) ∧ Below W.heap.size W w') := by
  by_cases h : okF s b
  · obtain ⟨h1, h2, h3, h4⟩ := h
    obtain ⟨c, rfl⟩ := Int.eq_ofNat_of_zero_le h3
    have hc : c = 0 ∨ c = 1 := by omega
    by_cases hv : ∃ v, FindR s c v
    · obtain ⟨v, hv⟩ := hv
      refine ⟨v, fun W => (specFind_any s c hc h1 h2 W).mono ?_, fun W => (implBitFind_in s c hc h1 h2 W).mono ?_⟩
      · rintro e w' ⟨⟨r, rfl, hr⟩, rfl⟩
        exact ⟨by rw [findR_one hr hv], rfl⟩
      · rintro e w' ⟨⟨r, rfl, hr⟩, hb⟩
        exact ⟨by rw [findR_one hr hv], hb⟩
    · refine ⟨0, fun W => (specFind_any s c hc h1 h2 W).mono ?_, fun W => (implBitFind_in s c hc h1 h2 W).mono ?_⟩
      · rintro e w' ⟨⟨r, rfl, hr⟩, rfl⟩
        exact absurd ⟨r, hr⟩ hv
      · rintro e w' ⟨⟨r, rfl, hr⟩, hb⟩
        exact absurd ⟨r, hr⟩ hv
  · exact ⟨-1, fun W => specNoF_any s b W h, fun W => implNoF_any s b W h⟩
theorem l8Bit_any (s : ByteArray) (a : Int) (w : World) : Calls Try.prog 23 #[.string s, .int .i64 a] w fun e w' => e = .returned (.bool (bplB s a)) ∧ w = w' := by
  by_cases h1 : (s.size : Int) ≤ 40
  · have HP : Hid (bplB s a = (decide (0 ≤ a) && decide (a ≤ 319))) := by
      show _ = _; unfold bplB; rw [decide_eq_true h1, Bool.true_and]
      congr 1
      exact decide_eq_decide.2 (by omega)
    go_enter Try.func23, Try.ntmps23
    go_wp2_with (go_at_call 24; refine (wIn_any _ _ _ _).mono ?_; rintro e w' ⟨rfl, rfl⟩)
    go_ret
    exact ⟨wret_b HP.out.symm, rfl⟩
  · have HP : Hid (bplB s a = false) := by show _ = _; unfold bplB; rw [decide_eq_false h1, Bool.false_and, Bool.false_and]
    go_enter Try.func23, Try.ntmps23
    go_wp2_with fail
    go_ret
    exact ⟨wret_b HP.out.symm, rfl⟩
theorem specBitGet_any (s : ByteArray) (a : Int) (w : World) : Calls Try.prog 10 #[.string s, .int .i64 a] w fun e w' => e = .returned (.int .i64 (getV s a)) ∧ w = w' := by
  cases hp : bplB s a with
  | false =>
    have HV : Hid (getV s a = 0) := by show _ = _; unfold getV; rw [hp]; rfl
    go_enter Try.func10, Try.ntmps10
    go_wp2_with (go_at_call 23; refine (l8Bit_any _ _ _).mono ?_; rw [hp]; rintro e w' ⟨rfl, rfl⟩)
    go_ret
    exact ⟨wret_i HV.out.symm, rfl⟩
  | true =>
    have HV : Hid (getV s a = (bit s a.toNat : Int)) := by show _ = _; unfold getV; rw [if_pos hp]
    obtain ⟨h0, h3⟩ : 0 ≤ a ∧ a < 320 := by
      unfold bplB at hp
      simp only [Bool.and_eq_true, decide_eq_true_eq] at hp
      omega
    obtain ⟨k, rfl⟩ := Int.eq_ofNat_of_zero_le h0
    have hk : k ≤ 1000000000 := by omega
    clear h0 h3
    go_enter Try.func10, Try.ntmps10
    go_wp2_with (first | (go_at_call 23; refine (l8Bit_any _ _ _).mono ?_; rw [hp]; rintro e w' ⟨rfl, rfl⟩) | (go_at_call 25; refine (l8Get_any _ _ _ hk).mono ?_; rintro e w' ⟨rfl, rfl⟩))
    go_ret
    exact ⟨wret_i HV.out.symm, rfl⟩

theorem no_cases {s : ByteArray} {f t : Int} (h : ¬ (s.size ≤ 40 ∧ placeB f = true ∧ placeB t = true)) : 40 < s.size ∨ (s.size ≤ 40 ∧ placeB f = false) ∨ (s.size ≤ 40 ∧ placeB f = true ∧ placeB t = false) := by
  by_cases h1 : s.size ≤ 40
  · cases h2 : placeB f with
    | false => exact .inr (.inl ⟨h1, rfl⟩)
    | true => cases h3 : placeB t with
      | false => exact .inr (.inr ⟨h1, rfl, rfl⟩)
      | true => exact absurd ⟨h1, h2, h3⟩ h
  · exact .inl (by omega)
set_option maxRecDepth 100000 in
set_option maxHeartbeats 4000000 in
theorem implNoC_any (s : ByteArray) (f t : Int) (w : World) (h : ¬ (s.size ≤ 40 ∧ placeB f = true ∧ placeB t = true)) :
    Calls Try.prog 11 #[.string s, .int .i64 f, .int .i64 t] w fun e w' => e = .returned (.int .i64 (cntV s f t)) ∧ w = w' := by
  have HV : Hid (cntV s f t = 0) := by show _ = _; unfold cntV; rw [if_neg h]
  rcases no_cases h with h1 | ⟨h1, h2⟩ | ⟨h1, h2, h3⟩
  · have h40 : (40 : Int) < (s.size : Int) := by omega
    clear h h1
    go_enter Try.func11, Try.ntmps11
    go_wp2_with fail
    go_ret
    exact ⟨wret_i HV.out.symm, rfl⟩
  · have hd40 : decide ((40 : Int) < (s.size : Int)) = false := decide_eq_false (by omega)
    clear h h1
    go_enter Try.func11, Try.ntmps11
    go_wp2_with (go_at_call 27; refine (placeOk_any _ _).mono ?_; rintro e w' ⟨rfl, rfl⟩; rw [h2])
    go_ret
    exact ⟨wret_i HV.out.symm, rfl⟩
  · have hd40 : decide ((40 : Int) < (s.size : Int)) = false := decide_eq_false (by omega)
    clear h h1
    go_enter Try.func11, Try.ntmps11
    go_wp2_with (go_at_call 27; refine (placeOk_any _ _).mono ?_; rintro e w' ⟨rfl, rfl⟩; first | rw [h2] | rw [h3])
    go_ret
    exact ⟨wret_i HV.out.symm, rfl⟩
set_option maxRecDepth 100000 in
set_option maxHeartbeats 4000000 in
theorem specNoC_any (s : ByteArray) (f t : Int) (w : World) (h : ¬ (s.size ≤ 40 ∧ placeB f = true ∧ placeB t = true)) :
    Calls Try.prog 13 #[.string s, .int .i64 f, .int .i64 t] w fun e w' => e = .returned (.int .i64 (cntV s f t)) ∧ w = w' := by
  have HV : Hid (cntV s f t = 0) := by show _ = _; unfold cntV; rw [if_neg h]
  rcases no_cases h with h1 | ⟨h1, h2⟩ | ⟨h1, h2, h3⟩
  · have h40 : (40 : Int) < (s.size : Int) := by omega
    clear h h1
    go_enter Try.func13, Try.ntmps13
    go_wp2_with fail
    go_ret
    exact ⟨wret_i HV.out.symm, rfl⟩
  · have hd40 : decide ((40 : Int) < (s.size : Int)) = false := decide_eq_false (by omega)
    clear h h1
    go_enter Try.func13, Try.ntmps13
    go_wp2_with (go_at_call 34; refine (l2Place_any _ _).mono ?_; rintro e w' ⟨rfl, rfl⟩; rw [h2])
    go_ret
    exact ⟨wret_i HV.out.symm, rfl⟩
  · have hd40 : decide ((40 : Int) < (s.size : Int)) = false := decide_eq_false (by omega)
    clear h h1
    go_enter Try.func13, Try.ntmps13
    go_wp2_with (go_at_call 34; refine (l2Place_any _ _).mono ?_; rintro e w' ⟨rfl, rfl⟩; first | rw [h2] | rw [h3])
    go_ret
    exact ⟨wret_i HV.out.symm, rfl⟩
/-- ones of n bits from i on -/
def bsum (s : ByteArray) (i : Nat) : Nat → Nat
  | 0 => 0
  | n + 1 => bsum s i n + bit s (i + n)
theorem bsum_le (s : ByteArray) (i : Nat) : ∀ n, bsum s i n ≤ n
  | 0 => Nat.le_refl _
  | n + 1 => by have := bsum_le s i n; have := bit_lt s (i + n); rw [bsum]; omega
theorem bsum_pcs (s : ByteArray) (a : Nat) : ∀ n, bsum s (8 * a) (8 * n) = pcs s a n
  | 0 => rfl
  | n + 1 => by
    have e : ∀ r, r < 8 → bit s (8 * a + (8 * n + r)) = byt s (a + n) / 2 ^ (7 - r) % 2 := by
      intro r hr
      unfold bit
      rw [show (8 * a + (8 * n + r)) / 8 = a + n by omega, show (8 * a + (8 * n + r)) % 8 = r by omega]
    rw [show 8 * (n + 1) = 8 * n + 7 + 1 by omega]
    rw [bsum, show 8 * n + 7 = 8 * n + 6 + 1 by omega, bsum, show 8 * n + 6 = 8 * n + 5 + 1 by omega, bsum, show 8 * n + 5 = 8 * n + 4 + 1 by omega, bsum, show 8 * n + 4 = 8 * n + 3 + 1 by omega, bsum, show 8 * n + 3 = 8 * n + 2 + 1 by omega, bsum, show 8 * n + 2 = 8 * n + 1 + 1 by omega, bsum, bsum, bsum_pcs s a n, pcs]
    have e0 := e 0 (by decide)
    have e1 := e 1 (by decide)
    have e2 := e 2 (by decide)
    have e3 := e 3 (by decide)
    have e4 := e 4 (by decide)
    have e5 := e 5 (by decide)
    have e6 := e 6 (by decide)
    have e7 := e 7 (by decide)
    rw [Nat.add_zero] at e0
    rw [e0, e1, show 8 * n + 1 + 1 = 8 * n + 2 by omega, e2, show 8 * n + 2 + 1 = 8 * n + 3 by omega, e3, show 8 * n + 3 + 1 = 8 * n + 4 by omega, e4, show 8 * n + 4 + 1 = 8 * n + 5 by omega, e5, show 8 * n + 5 + 1 = 8 * n + 6 by omega, e6, show 8 * n + 6 + 1 = 8 * n + 7 by omega, e7]
    unfold pc
    simp only [Nat.reduceSub, Nat.reducePow, Nat.div_one]
    omega
set_option maxRecDepth 100000 in
set_option maxHeartbeats 4000000 in
theorem specCount_any (s : ByteArray) (f t : Int) (hs : s.size ≤ 40) (hf : placeB f = true) (ht : placeB t = true) (w : World) :
    Calls Try.prog 13 #[.string s, .int .i64 f, .int .i64 t] w fun e w' => e = .returned (.int .i64 (cntV s f t)) ∧ w = w' := by
  have hd40 : decide ((40 : Int) < (s.size : Int)) = false := decide_eq_false (by omega)
  obtain ⟨hae, hen⟩ := ends_le (n := s.size) f t
  obtain ⟨a, ha⟩ : ∃ a, endA s.size f t = a := ⟨_, rfl⟩
  obtain ⟨e, he⟩ : ∃ e, endE s.size f t = e := ⟨_, rfl⟩
  have HV : Hid (cntV s f t = (bsum s (8 * a) (8 * (e - a)) : Int)) := by show _ = _; unfold cntV; rw [if_pos ⟨hs, hf, ht⟩, ha, he, bsum_pcs]
  have hpb := l2Ends_any (s.size : Int) f t
  rw [ha, he] at hae; rw [he] at hen
  rw [ha, he] at hpb
  have HPB : Hid _ := hpb
  have hb1 := place_bd hf
  have hb2 := place_bd ht
  clear ha he hpb
  go_enter Try.func13, Try.ntmps13
  go_wp2_with (first | (go_at_call 34; refine (l2Place_any _ _).mono ?_; rintro e' w' ⟨rfl, rfl⟩; first | rw [hf] | rw [ht]) | (go_at_call 35; refine (HPB.out _ (by omega) (by omega) hb1 hb2).mono ?_; rintro e' w' ⟨rfl, rfl⟩))
  clear hd40 hb1 hb2 hf ht
  go_loopw [9, 10] (fun n i wr => ∃ j : Nat, j ≤ 8 * (e - a) ∧ i = .int .i64 ((8 * a + j : Nat) : Int) ∧ n = .int .i64 (bsum s (8 * a) j : Int) ∧ w = wr) (fun _ i _ => 8 * e - (intOf i).toNat)
  case atStart => exact ⟨0, Nat.zero_le _, by simp, rfl, rfl⟩
  case round =>
    obtain ⟨j, hj, rfl, rfl, rfl⟩ := hrel
    have hle := bsum_le s (8 * a) j
    by_cases hlt : j < 8 * (e - a)
    · have hi : ((8 * a + j : Nat) : Int) < 8 * (e : Int) := by omega
      have hb : 8 * a + j ≤ 1000000000 := by omega
      have hbl := bit_lt s (8 * a + j)
      obtain ⟨i, hii⟩ : ∃ i, 8 * a + j = i := ⟨_, rfl⟩
      have HJ : Hid (i = 8 * a + j) := hii.symm
      rw [hii] at hi hb hbl ⊢
      have HSN : Hid (bsum s (8 * a) (j + 1) = bsum s (8 * a) j + bit s i) := by show _ = _; rw [bsum, hii]
      have hi2 : i ≤ 1000 := by omega
      clear hii
      generalize bsum s (8 * a) j = n at *
      have hn : n ≤ 1000 := by omega
      go_wp2_with (go_at_call 25; refine (l8Get_any _ _ _ hb).mono ?_; rintro e' w' ⟨rfl, rfl⟩)
      go_roundw
      case rel => exact ⟨j + 1, by omega, by rw [show 8 * a + (j + 1) = i + 1 by rw [HJ.out]; omega]; go_num, by rw [HSN.out]; go_num, trivial⟩
      case measure => simp [intOf]; omega
    · have hi : ¬ ((8 * a + j : Nat) : Int) < 8 * (e : Int) := by omega
      obtain rfl : j = 8 * (e - a) := by omega
      generalize 8 * a + 8 * (e - a) = i at *
      go_wp2_with fail
      go_ret
      exact ⟨wret_i HV.out.symm, rfl⟩

theorem bothC (s : ByteArray) (f t : Int) : ∃ v : Int, (∀ W, Calls Try.prog 13 #[.string s, .int .i64 f, .int .i64 t] W fun e w' => e = .returned (.int .i64 v) ∧ W = w') ∧ (∀ W, Calls Try.prog 11 #[.string s, .int .i64 f, .int .i64 t] W fun e w' => e = .returned (.int .i64 v) ∧ Below W.heap.size W w') := by
  refine ⟨cntV s f t, ?_⟩
  by_cases h : s.size ≤ 40 ∧ placeB f = true ∧ placeB t = true
  · exact ⟨fun W => specCount_any s f t h.1 h.2.1 h.2.2 W, fun W => implCount_in s f t h.1 h.2.1 h.2.2 W⟩
  · exact ⟨fun W => specNoC_any s f t W h, fun W => (implNoC_any s f t W h).mono fun e w' ⟨h1, h2⟩ => ⟨h1, by rw [← h2]; exact Below.refl _ _⟩⟩
end Go.Proofs.Ytnpkegmkmhambaa
