/- The program's wordAt, bitPlaceOk, bitOk; the model's l8Get. -/
import Derived.Test.YtnpkegmkmhambaaWdA
import Derived.Test.YtnpkegmkmhambaaRows
import Derived.WalkKit
import Derived.WalkSpells
import Derived.Outline
import Derived.Below
import Derived.WalkSmall
import Derived.Deep.RegionWith
import Derived.ProofKit
namespace Go.Proofs.Ytnpkegmkmhambaa
open Go.RowKit wd

theorem wret_i {k : IntKind} {a b : Int} (h : a = b) : Ending.returned (.int k a) = .returned (.int k b) := by rw [h]
theorem wret_b {a b : Bool} (h : a = b) : Ending.returned (.bool a) = .returned (.bool b) := by rw [h]
theorem byte_at (s : ByteArray) (k : Nat) (h : k < s.size) : s.data[k]? = some s[k] := Array.getElem?_eq_getElem (show k < s.data.size from h)
theorem wrap_u64 {n : Nat} (h : n < 18446744073709551616) : IntKind.u64.wrap (n : Int) = n := by
  unfold IntKind.wrap; simp [IntKind.signed, IntKind.bits]; omega
theorem wf_small (s : ByteArray) (k : Nat) {j : Nat} (h8 : j < 8) : wf s k j * 256 < 18446744073709551616 := by
  have h := wf_lt s k j
  have h2 : 256 ^ j ≤ 256 ^ 7 := Nat.pow_le_pow_right (by decide) (by omega)
  have h3 : (256 : Nat) ^ 7 * 256 = 18446744073709551616 := by decide
  omega
theorem wf_step_out {s : ByteArray} {j : Nat} (h8 : j < 8) (h : s.size ≤ j) : IntKind.u64.wrap ((wf s 0 j : Int) * 256) = (wf s 0 (j + 1) : Int) := by
  rw [show ((wf s 0 j : Int) * 256) = ((wf s 0 j * 256 : Nat) : Int) by omega, wrap_u64 (wf_small s 0 h8), wf, Nat.zero_add, byt_out h, Nat.add_zero]
theorem wf_step_in {s : ByteArray} {j : Nat} (h8 : j < 8) (h : j < s.size) : bits .or .u64 (IntKind.u64.wrap ((wf s 0 j : Int) * 256)) (IntKind.u64.wrap (s[j].toNat : Int)) = (wf s 0 (j + 1) : Int) := by
  have hb : s[j].toNat < 256 := s[j].toNat_lt
  rw [show ((wf s 0 j : Int) * 256) = ((wf s 0 j * 256 : Nat) : Int) by omega, wrap_u64 (wf_small s 0 h8), wrap_u64 (by omega), u64_or_byte _ _ (wf_small s 0 h8) hb, wf, Nat.zero_add, byt_in h]
set_option maxRecDepth 100000 in
set_option maxHeartbeats 4000000 in
theorem wordAt_any (s : ByteArray) (w : World) : Calls Try.prog 45 #[.string s] w fun e w' => e = .returned (.int .u64 (wf s 0 8 : Int)) ∧ w = w' := by
  go_enter Try.func45, Try.ntmps45
  go_wp2_with fail
  go_loopw [3, 4, 5] (fun x y i wr => ∃ j : Nat, j ≤ 8 ∧ i = .int .i64 j ∧ x = .int .u64 (wf s 0 j : Int) ∧ w = wr) (fun _ _ i _ => 8 - (intOf i).toNat)
  case atStart => exact ⟨0, Nat.zero_le _, rfl, rfl, rfl⟩
  case round =>
    obtain ⟨j, hj, rfl, rfl, rfl⟩ := hrel
    have hlt := wf_lt s 0 j
    by_cases h8 : j < 8
    · have h8' : (j : Int) < 8 := by omega
      by_cases hin : j < s.size
      · have hin' : (j : Int) < (s.size : Int) := by omega
        have hb := byte_at s j hin
        go_wp2_with fail
        go_roundw
        case rel => exact ⟨j + 1, by omega, by go_num, by rw [wf_step_in h8 hin], trivial⟩
        case measure => simp [intOf]; omega
      · have hin' : ¬ (j : Int) < (s.size : Int) := by omega
        go_wp2_with fail
        go_roundw
        case rel => exact ⟨j + 1, by omega, by go_num, by rw [wf_step_out h8 (by omega)], trivial⟩
        case measure => simp [intOf]; omega
    · obtain rfl : j = 8 := by omega
      go_wp2_with fail
      go_ret
      exact ⟨rfl, rfl⟩

def bplB (s : ByteArray) (a : Int) : Bool := decide ((s.size : Int) ≤ 40) && decide (0 ≤ a) && decide (a < 320)
set_option maxRecDepth 100000 in
set_option maxHeartbeats 4000000 in
theorem bitPlaceOk_any (s : ByteArray) (a : Int) (w : World) : Calls Try.prog 20 #[.string s, .int .i64 a] w fun e w' => e = .returned (.bool (bplB s a)) ∧ w = w' := by
  by_cases h1 : (s.size : Int) ≤ 40
  · by_cases h2 : (0 : Int) ≤ a
    · by_cases h3 : a < 320
      · have HP : Hid (bplB s a = true) := by show _ = _; unfold bplB; rw [decide_eq_true h1, decide_eq_true h2, decide_eq_true h3]; rfl
        go_enter Try.func20, Try.ntmps20
        go_wp2_with fail
        go_ret
        exact ⟨wret_b (by rw [HP.out]), rfl⟩
      · have HP : Hid (bplB s a = false) := by show _ = _; unfold bplB; rw [decide_eq_false h3, Bool.and_false]
        go_enter Try.func20, Try.ntmps20
        go_wp2_with fail
        go_ret
        exact ⟨wret_b (by rw [HP.out]), rfl⟩
    · have HP : Hid (bplB s a = false) := by show _ = _; unfold bplB; rw [decide_eq_false h2, Bool.and_false, Bool.false_and]
      go_enter Try.func20, Try.ntmps20
      go_wp2_with fail
      go_ret
      exact ⟨wret_b HP.out.symm, rfl⟩
  · have HP : Hid (bplB s a = false) := by show _ = _; unfold bplB; rw [decide_eq_false h1, Bool.false_and, Bool.false_and]
    go_enter Try.func20, Try.ntmps20
    go_wp2_with fail
    go_ret
    exact ⟨wret_b HP.out.symm, rfl⟩
set_option maxRecDepth 100000 in
set_option maxHeartbeats 4000000 in
theorem bitOk_any (a : Int) (w : World) : Calls Try.prog 21 #[.int .i64 a] w fun e w' => e = .returned (.bool (decide (a = 0) || decide (a = 1))) ∧ w = w' := by
  by_cases h1 : a = 0
  · subst h1
    go_enter Try.func21, Try.ntmps21
    go_wp2_with fail
    go_ret
    exact ⟨rfl, rfl⟩
  · have h1' : (a == 0) = false := by simpa using h1
    have h1'' : decide (a = 0) = false := decide_eq_false h1
    have HD : Hid _ := h1''
    clear h1 h1''
    by_cases h2 : a = 1
    · subst h2
      go_enter Try.func21, Try.ntmps21
      go_wp2_with fail
      go_ret
      exact ⟨rfl, rfl⟩
    · have h2' : (a == 1) = false := by simpa using h2
      have HE : Hid (decide (a = 1) = false) := decide_eq_false h2
      clear h2
      go_enter Try.func21, Try.ntmps21
      go_wp2_with fail
      go_ret
      exact ⟨by rw [HD.out, HE.out]; rfl, rfl⟩
theorem i64_and1 (n : Int) : bits .and .i64 n 1 = n % 2 := by
  have h1 : (BitVec.ofInt 64 1).toNat = 2 ^ 1 - 1 := by decide
  have key : (BitVec.ofInt 64 n &&& BitVec.ofInt 64 1).toNat = (n % ((2 ^ 64 : Nat) : Int)).toNat % 2 ^ 1 := by
    rw [BitVec.toNat_and, BitVec.toNat_ofInt, h1, Nat.and_two_pow_sub_one_eq_mod]
  show IntKind.i64.wrap ((BitVec.ofInt 64 n &&& BitVec.ofInt 64 1).toNat : Nat) = n % 2
  rw [key, IntKind.wrap_i64]
  omega
theorem bit_of {s : ByteArray} {i : Nat} (h : i / 8 < s.size) : bits .and .i64 (wrap64 (s[i / 8].toNat : Int) / 2 ^ (7 - i % 8)) 1 = (bit s i : Int) := by
  have hb : s[i / 8].toNat < 256 := s[i / 8].toNat_lt
  have e : (wrap64 (s[i / 8].toNat : Int) / 2 ^ (7 - i % 8)) = ((s[i / 8].toNat / 2 ^ (7 - i % 8) : Nat) : Int) := by
    rw [show wrap64 (s[i / 8].toNat : Int) = (s[i / 8].toNat : Int) by unfold wrap64; omega]
    simp
  rw [e, i64_and1]
  unfold bit
  rw [byt_in h]
  omega
set_option maxRecDepth 100000 in
set_option maxHeartbeats 4000000 in
theorem l8Get_any (s : ByteArray) (i : Nat) (w : World) (hi : i ≤ 1000000000) : Calls Try.prog 25 #[.string s, .int .i64 (i : Int)] w fun e w' => e = .returned (.int .i64 (bit s i : Int)) ∧ w = w' := by
  by_cases h : i / 8 < s.size
  · have hlt : ((i / 8 : Nat) : Int) < (s.size : Int) := by omega
    have hb := byte_at s (i / 8) h
    go_enter Try.func25, Try.ntmps25
    go_wp2_with fail
    go_ret
    exact ⟨wret_i (bit_of h), rfl⟩
  · have hlt : ¬ ((i / 8 : Nat) : Int) < (s.size : Int) := by omega
    have HB : Hid (bit s i = 0) := bit_out (by omega)
    go_enter Try.func25, Try.ntmps25
    go_wp2_with fail
    go_ret
    exact ⟨wret_i (by rw [HB.out]; rfl), rfl⟩
end Go.Proofs.Ytnpkegmkmhambaa
