/- The contracts of the two readers of figures, the model's and the program's: no condition but that a text is one. -/
import Derived.Test.YtkpfoocfjhilmaaDoorRows
import Derived.Test.YtkpfoocfjhilmaaDoorNum
import Derived.WalkKit
import Derived.WalkSpells
import Derived.Outline
import Derived.Lib.Strings
namespace Go.Proofs.YtkpfoocfjhilmaaDoor
open Go.RowKit
open num

theorem ret_int {k : IntKind} {a b : Int} (h : a = b) : Ending.returned (.int k a) = .returned (.int k b) := by rw [h]

def inB (n lo hi : Int) : Bool := decide (lo ≤ n) && decide (n ≤ hi)

theorem l1In_any (n lo hi : Int) (w : World) :
    Calls Tryd.prog 33 #[.int .i64 n, .int .i64 lo, .int .i64 hi] w fun e w' => e = .returned (.bool (inB n lo hi)) ∧ w' = w := by
  by_cases h1 : lo ≤ n
  · go_enter Tryd.func33, Tryd.ntmps33
    go_wp2
    go_ret
    exact ⟨by simp [inB, h1], rfl⟩
  · have h2 : n < lo := by omega
    have h3 : ¬ lo ≤ n := h1
    clear h1
    go_enter Tryd.func33, Tryd.ntmps33
    go_wp2
    go_ret
    exact ⟨by simp [inB]; omega, rfl⟩

theorem dig_of {c : UInt8} (h : 48 ≤ (c.toNat : Int) ∧ (c.toNat : Int) ≤ 57) : isDig c = true := by
  simp [isDig]; omega
theorem not_dig_of {c : UInt8} (h : (c.toNat : Int) < 48 ∨ 57 < (c.toNat : Int)) : isDig c = false := by
  simp [isDig]; omega
theorem figs_bad {s : ByteArray} {k : Nat} (hlt : k < s.size) (h : isDig s[k] = false) : figs s.data.toList = -1 := by
  unfold figs
  rw [if_neg]
  intro hh
  have := List.all_eq_true.1 hh.1 s[k] (by exact List.getElem_mem (l := s.data.toList) (n := k) (by simpa using hlt))
  rw [h] at this
  cases this
theorem all_step {s : ByteArray} {k : Nat} (hlt : k < s.size) (ha : (s.data.toList.take k).all isDig = true) (h : isDig s[k] = true) : (s.data.toList.take (k + 1)).all isDig = true := by
  rw [take_snoc s k hlt, List.all_append, ha]; simp [h]
theorem val_bd {l : List UInt8} {k : Nat} (h : (l.take k).all isDig = true) : val (l.take (min k 10)) < 10000000000 := by
  have h1 : (l.take (min k 10)).all isDig = true := by
    have := all_take (l.take k) 10 h
    rwa [List.take_take, Nat.min_comm] at this
  have h2 := val_lt _ h1
  have h3 : (l.take (min k 10)).length ≤ 10 := by rw [List.length_take]; omega
  have h4 : 10 ^ (l.take (min k 10)).length ≤ 10 ^ 10 := Nat.pow_le_pow_right (by omega) h3
  omega
theorem val_step {s : ByteArray} {k : Nat} (hlt : k < s.size) (hk : (k : Int) < 10) (h : 48 ≤ (s[k].toNat : Int) ∧ (s[k].toNat : Int) ≤ 57) :
    (val (s.data.toList.take (min k 10)) : Int) * 10 + ((s[k].toNat : Int) - 48) = (val (s.data.toList.take (min (k + 1) 10)) : Int) := by
  rw [Nat.min_eq_left (by omega), Nat.min_eq_left (by omega), take_snoc s k hlt, val_snoc]; omega
theorem val_stay {l : List UInt8} {k : Nat} (hk : 10 ≤ (k : Int)) : (val (l.take (min k 10)) : Int) = (val (l.take (min (k + 1) 10)) : Int) := by
  rw [Nat.min_eq_right (by omega), Nat.min_eq_right (by omega)]

theorem figs_end {s : ByteArray} {k : Nat} (hk : k ≤ s.size) (hlt : ¬ k < s.size) (ha : (s.data.toList.take k).all isDig = true) :
    figs s.data.toList = if 1 ≤ s.size ∧ s.size ≤ 10 ∧ nought s.data.toList = false then (val (s.data.toList.take (min k 10)) : Int) else -1 := by
  have e : k = s.data.toList.length := by simp; exact Nat.le_antisymm hk (by omega)
  have e2 : s.data.toList.length = s.size := by simp
  rw [e, List.take_length] at ha
  unfold figs
  rw [e2]
  by_cases h : 1 ≤ s.size ∧ s.size ≤ 10 ∧ nought s.data.toList = false
  · rw [if_pos h, if_pos ⟨ha, h⟩, Nat.min_eq_left (by omega), e, List.take_length]
  · rw [if_neg h, if_neg (fun hh => h hh.2)]

theorem nought_of {s : ByteArray} (h : 1 < (s.size : Int)) (h0 : 0 < s.size) : nought s.data.toList = ((s[0].toNat : Int) == 48) := by
  have e : s.data.toList.length = s.size := by simp
  have e1 : s.data.toList.headD 0 = s[0] := by
    rw [List.headD_eq_head?_getD, List.head?_eq_getElem?, List.getElem?_eq_getElem (by omega)]; rfl
  unfold nought
  rw [e, e1]
  have : decide (1 < s.size) = true := by simp; omega
  rw [this, Bool.true_and, Bool.eq_iff_iff]
  simp only [beq_iff_eq]
  omega
theorem nought_short {s : ByteArray} (h : (s.size : Int) ≤ 1) : nought s.data.toList = false := by
  have e : s.data.toList.length = s.size := by simp
  unfold nought
  rw [e]
  have : decide (1 < s.size) = false := by simp; omega
  rw [this]; rfl
theorem in_of {n : Nat} (h : inB (n : Int) 1 10 = true) : 1 ≤ n ∧ n ≤ 10 := by simp [inB] at h; omega
theorem of_in {n : Nat} (h1 : 1 ≤ n) (h2 : n ≤ 10) : inB (n : Int) 1 10 = true := by simp [inB]; omega

set_option maxHeartbeats 400000 in
theorem figs_any (s : ByteArray) (w : World) (hs : s.size ≤ maxLen) :
    Calls Tryd.prog 22 #[.string s] w fun e w' => e = .returned (.int .i64 (figs s.data.toList)) ∧ w' = w := by
  unfold maxLen at hs
  go_enter Tryd.func22, Tryd.ntmps22
  go_wp2
  go_loop [3, 4] (fun n i => ∃ k : Nat, k ≤ s.size ∧ i = .int .i64 k ∧ (s.data.toList.take k).all isDig = true ∧ n = .int .i64 (val (s.data.toList.take (min k 10)))) (fun _ i => s.size - (intOf i).toNat)
  case atStart => exact ⟨0, Nat.zero_le _, rfl, rfl, rfl⟩
  case round =>
    obtain ⟨k, hk, rfl, hall, rfl⟩ := hrel
    have hv := val_bd hall
    have HA : Hid ((s.data.toList.take k).all isDig = true) := hall
    clear hall
    by_cases hlt : k < s.size
    · go_wp2
      · go_ret
        exact ⟨ret_int (figs_bad hlt (not_dig_of (by assumption))).symm, rfl⟩
      · go_round
        case rel => exact ⟨k + 1, by omega, by go_num, all_step hlt HA.out (dig_of ‹_›), by rw [val_step hlt ‹_› ‹_›]⟩
        case measure => simp [intOf]; omega
      · go_round
        case rel => exact ⟨k + 1, by omega, by go_num, all_step hlt HA.out (dig_of ‹_›), by rw [← val_stay ‹_›]⟩
        case measure => simp [intOf]; omega
      · go_ret
        exact ⟨ret_int (figs_bad hlt (not_dig_of (.inl ‹_›))).symm, rfl⟩
    · have HF : Hid (figs s.data.toList = if 1 ≤ s.size ∧ s.size ≤ 10 ∧ nought s.data.toList = false then (val (s.data.toList.take (min k 10)) : Int) else -1) := figs_end hk hlt HA.out
      go_wp2_with (go_at_call 33; refine (l1In_any _ _ _ _).mono ?_; rintro e w' ⟨rfl, rfl⟩)
      · go_ret
        exact ⟨ret_int (by rw [HF.out, if_neg]; intro hh; rw [nought_of ‹_› ‹_›] at hh; rw [‹(_ == _) = true›] at hh; cases hh.2.2), rfl⟩
      · go_ret
        exact ⟨ret_int (by rw [HF.out, if_pos ⟨(in_of ‹_›).1, (in_of ‹_›).2, by rw [nought_of ‹_› ‹_›]; assumption⟩]), rfl⟩
      · go_ret
        exact ⟨ret_int (by rw [HF.out, if_pos ⟨(in_of ‹_›).1, (in_of ‹_›).2, nought_short ‹_›⟩]), rfl⟩
      · go_ret
        exact ⟨ret_int (by rw [HF.out, if_neg]; intro hh; exact ‹¬ _› (of_in hh.1 hh.2.1)), rfl⟩

/-! ### the program's own reader -/
theorem fits_bad {s : ByteArray} {k : Nat} (hlt : k < s.size) (h : isDig s[k] = false) : fits s.data.toList = false := by
  unfold fits
  have : s.data.toList.all isDig = false := by
    rw [Bool.eq_false_iff]
    intro hh
    have := List.all_eq_true.1 hh s[k] (by exact List.getElem_mem (l := s.data.toList) (n := k) (by simpa using hlt))
    rw [h] at this
    cases this
  rw [this]; rfl
theorem fits_great {l : List UInt8} {k : Nat} (h : 1000000000 < (val (l.take k) : Int)) : fits l = false := by
  have := val_take_le l k
  have h2 : decide (val l ≤ 1000000000) = false := by simp; omega
  unfold fits; rw [h2]; simp

def got (l : List UInt8) : Int := if fits l = true then (val l : Int) else 0

theorem toList_empty (s : ByteArray) (h : s.size = 0) : s.toList.isEmpty = true := by
  rw [Lib.toList_data, List.isEmpty_iff, ← List.length_eq_zero_iff]; simpa using h
theorem toList_not_empty (s : ByteArray) (h : 0 < s.size) : s.toList.isEmpty = false := by
  rw [Lib.toList_data, Bool.eq_false_iff]; intro e; rw [List.isEmpty_iff] at e
  have : s.data.toList.length = s.size := by simp
  rw [e] at this; simp at this; omega
theorem fits_empty (s : ByteArray) (h : s.size = 0) : fits s.data.toList = false := by
  have : s.data.toList.length = s.size := by simp
  unfold fits
  have h2 : decide (1 ≤ s.data.toList.length) = false := by rw [this, h]; rfl
  rw [h2]; simp
theorem fits_nought (s : ByteArray) (h : nought s.data.toList = true) : fits s.data.toList = false := by
  unfold fits; rw [h]; simp
theorem fits_end {s : ByteArray} {k : Nat} (hk : k ≤ s.size) (hlt : ¬ k < s.size) (h0 : 0 < s.size) (hn : nought s.data.toList = false) (ha : (s.data.toList.take k).all isDig = true)
    (hv : val (s.data.toList.take k) ≤ 1000000000) : fits s.data.toList = true ∧ val (s.data.toList.take k) = val s.data.toList := by
  have e : k = s.data.toList.length := by simp; exact Nat.le_antisymm hk (by omega)
  have e2 : s.data.toList.length = s.size := by simp
  rw [e, List.take_length] at ha hv
  rw [e, List.take_length]
  refine ⟨?_, rfl⟩
  have h3 : decide (1 ≤ s.data.toList.length) = true := by simp; omega
  have h4 : decide (val s.data.toList ≤ 1000000000) = true := by simpa using hv
  unfold fits
  rw [ha, h3, hn, h4]; rfl
theorem ret_got {l : List UInt8} {a : Int} {b : Bool} (h : fits l = b) (h2 : got l = a) :
    Ending.returned (.tuple #[.int .i64 a, .bool b]) = .returned (.tuple #[.int .i64 (got l), .bool (fits l)]) := by rw [h, h2]
theorem got_no {l : List UInt8} (h : fits l = false) : got l = 0 := by unfold got; rw [h]; rfl

theorem val_next {s : ByteArray} {k : Nat} (hlt : k < s.size) (h : 48 ≤ (s[k].toNat : Int) ∧ (s[k].toNat : Int) ≤ 57) :
    (val (s.data.toList.take (k + 1)) : Int) = (val (s.data.toList.take k) : Int) * 10 + ((s[k].toNat : Int) - 48) := by
  rw [take_snoc s k hlt, val_snoc]; omega

set_option maxHeartbeats 400000 in
theorem got_any (s : ByteArray) (w : World) (hs : s.size ≤ maxLen) :
    Calls Tryd.prog 30 #[.string s] w fun e w' => e = .returned (.tuple #[.int .i64 (got s.data.toList), .bool (fits s.data.toList)]) ∧ w' = w := by
  unfold maxLen at hs
  by_cases h0 : s.size = 0
  · have he := toList_empty s h0
    have HF : Hid (fits s.data.toList = false) := fits_empty s h0
    go_enter Tryd.func30, Tryd.ntmps30
    go_wp2
    go_ret2
    exact ⟨ret_got HF.out (got_no HF.out), rfl⟩
  · have h0' : 0 < s.size := by omega
    have he := toList_not_empty s h0'
    clear h0
    cases hn : nought s.data.toList with
    | true =>
      have h1 : 1 < (s.size : Int) := by
        by_cases h1 : 1 < (s.size : Int)
        · exact h1
        · rw [nought_short (by omega)] at hn; cases hn
      have hz := nought_of h1 h0'
      rw [hn] at hz
      have hz' := hz.symm
      have HF : Hid (fits s.data.toList = false) := fits_nought s hn
      clear hn hz
      go_enter Tryd.func30, Tryd.ntmps30
      go_wp2
      go_ret2
      exact ⟨ret_got HF.out (got_no HF.out), rfl⟩
    | false =>
      have hcase : (s.size : Int) ≤ 1 ∨ (1 < (s.size : Int) ∧ ((s[0].toNat : Int) == 48) = false) := by
        by_cases h1 : 1 < (s.size : Int)
        · right; refine ⟨h1, ?_⟩; rw [← nought_of h1 h0']; exact hn
        · left; omega
      have HN : Hid (nought s.data.toList = false) := hn
      clear hn
      rcases hcase with h1 | ⟨h1, hz⟩
      all_goals
        go_enter Tryd.func30, Tryd.ntmps30
        go_wp2
        go_loop [4, 5, 6, 21] (fun n _ _ i => ∃ k : Nat, k ≤ s.size ∧ i = .int .i64 k ∧ (s.data.toList.take k).all isDig = true ∧ val (s.data.toList.take k) ≤ 1000000000 ∧ n = .int .i64 (val (s.data.toList.take k))) (fun _ _ _ i => s.size - (intOf i).toNat)
        case atStart => exact ⟨0, Nat.zero_le _, rfl, rfl, by simp [val], rfl⟩
        case round =>
          obtain ⟨k, hk, rfl, hall, hv, rfl⟩ := hrel
          have HA : Hid ((s.data.toList.take k).all isDig = true) := hall
          clear hall
          by_cases hlt : k < s.size
          · go_wp2
            · go_ret2
              have hf := fits_bad hlt (not_dig_of (by assumption))
              exact ⟨ret_got hf (got_no hf), rfl⟩
            · go_ret2
              have hf : fits s.data.toList = false := fits_great (k := k + 1) (by rw [val_next hlt ‹_›]; assumption)
              exact ⟨ret_got hf (got_no hf), rfl⟩
            · go_round
              case rel => exact ⟨k + 1, by omega, by go_num, all_step hlt HA.out (dig_of ‹_›), by have := val_next hlt ‹_›; omega, by rw [val_next hlt ‹_›]⟩
              case measure => simp [intOf]; omega
            · go_ret2
              have hf := fits_bad hlt (not_dig_of (.inl ‹_›))
              exact ⟨ret_got hf (got_no hf), rfl⟩
          · go_wp2
            go_ret2
            have HE := fits_end hk hlt h0' HN.out HA.out hv
            exact ⟨ret_got HE.1 (by unfold got; rw [if_pos HE.1, HE.2]), rfl⟩
end Go.Proofs.YtkpfoocfjhilmaaDoor
