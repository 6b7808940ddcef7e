/- Bits of texts as numbers. Plain facts: no Go text here. -/
import Derived.WalkKit
import Derived.Laws.BitsAllLaws
import Derived.Laws.Bits128
namespace Go.Proofs.Ytnpkegmkmhambaa.wd
open Go.RowKit

/-- byte k of a text as a number; 0 behind its end -/
def byt (s : ByteArray) (k : Nat) : Nat := (s.data[k]?.map UInt8.toNat).getD 0
theorem byt_lt (s : ByteArray) (k : Nat) : byt s k < 256 := by
  unfold byt
  cases s.data[k]? with
  | none => decide
  | some c => exact c.toNat_lt
theorem byt_in {s : ByteArray} {k : Nat} (h : k < s.size) : byt s k = s[k].toNat := by
  unfold byt
  rw [Array.getElem?_eq_getElem (show k < s.data.size from h)]; rfl
theorem byt_out {s : ByteArray} {k : Nat} (h : s.size ≤ k) : byt s k = 0 := by
  unfold byt
  rw [Array.getElem?_eq_none (show s.data.size ≤ k from h)]; rfl
/-- bit i of a text, the highest of a byte first -/
def bit (s : ByteArray) (i : Nat) : Nat := byt s (i / 8) / 2 ^ (7 - i % 8) % 2
theorem bit_lt (s : ByteArray) (i : Nat) : bit s i < 2 := Nat.mod_lt _ (by decide)
theorem bit_out {s : ByteArray} {i : Nat} (h : s.size ≤ i / 8) : bit s i = 0 := by
  unfold bit; rw [byt_out h, Nat.zero_div]
/-- j bytes from k on as one number -/
def wf (s : ByteArray) (k : Nat) : Nat → Nat
  | 0 => 0
  | j + 1 => wf s k j * 256 + byt s (k + j)
theorem wf_lt (s : ByteArray) (k : Nat) : ∀ j, wf s k j < 256 ^ j
  | 0 => by simp [wf]
  | j + 1 => by
    have h := wf_lt s k j
    have hb := byt_lt s (k + j)
    rw [wf, Nat.pow_succ]; omega
theorem wf_div (s : ByteArray) (k j : Nat) : ∀ m, wf s k (j + m) / 256 ^ m = wf s k j
  | 0 => by simp
  | m + 1 => by
    have hb := byt_lt s (k + (j + m))
    rw [← Nat.add_assoc, wf, Nat.pow_succ, Nat.mul_comm (256 ^ m) 256, ← Nat.div_div_eq_div_mul]
    rw [show (wf s k (j + m) * 256 + byt s (k + (j + m))) / 256 = wf s k (j + m) by omega]
    exact wf_div s k j m
theorem wf_bit (s : ByteArray) (k : Nat) {t : Nat} (h : t < 64) : wf s k 8 / 2 ^ (63 - t) % 2 = bit s (8 * k + t) := by
  obtain ⟨q, hq⟩ : ∃ q, t / 8 = q := ⟨_, rfl⟩
  obtain ⟨r, hr⟩ : ∃ r, t % 8 = r := ⟨_, rfl⟩
  have e1 : 63 - t = 8 * (7 - q) + (7 - r) := by omega
  have e2 : (8 : Nat) = (q + 1) + (7 - q) := by omega
  have e3 : (8 * k + t) / 8 = k + q := by omega
  have e4 : (8 * k + t) % 8 = r := by omega
  unfold bit
  rw [e1, Nat.pow_add, Nat.pow_mul, show (2 : Nat) ^ 8 = 256 by decide, ← Nat.div_div_eq_div_mul]
  rw [show wf s k 8 = wf s k ((q + 1) + (7 - q)) by rw [← e2], wf_div, e3, e4, wf]
  have hr8 : r < 8 := by omega
  have e5 : wf s k q * 256 = 2 ^ (7 - r) * (wf s k q * 2 ^ (r + 1)) := by
    rw [Nat.mul_comm (2 ^ (7 - r)), Nat.mul_assoc, ← Nat.pow_add, show r + 1 + (7 - r) = 8 by omega]
  rw [e5, Nat.mul_add_div (Nat.pow_pos (by decide)), Nat.pow_succ, ← Nat.mul_assoc, Nat.mul_add_mod_self_right]
theorem or_byte (a b : Nat) (hb : b < 256) : a * 256 ||| b = a * 256 + b := by
  have := Nat.two_pow_add_eq_or_of_lt (i := 8) hb a
  rw [Nat.mul_comm a 256]
  exact this.symm
theorem u64_or_byte (a b : Nat) (ha : a * 256 < 18446744073709551616) (hb : b < 256) : bits .or .u64 ((a * 256 : Nat) : Int) (b : Int) = ((a * 256 + b : Nat) : Int) := by
  rw [u64_or_nat _ _ ha (by omega), or_byte a b hb]
end Go.Proofs.Ytnpkegmkmhambaa.wd
