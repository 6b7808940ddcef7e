/- Bits of a text together: what the laws by draws ask. Plain facts. -/
import Derived.Test.YtnpkegmkmhambaaWdI
namespace Go.Proofs.Ytnpkegmkmhambaa
open Go.RowKit wd

theorem getV_bit {s : ByteArray} {k : Nat} (hs : s.size ≤ 40) (hk : k < 8 * s.size) : getV s (k : Int) = (bit s k : Int) := by
  unfold getV
  rw [if_pos (by unfold bplB; rw [decide_eq_true (by omega), decide_eq_true (by omega), decide_eq_true (by omega)]; rfl)]
  rfl
theorem ends_all (n : Nat) : endA (n : Int) 0 (-1) = 0 ∧ endE (n : Int) 0 (-1) = n := by
  unfold endA endE fromP toP
  simp only []
  repeat' split
  all_goals omega
theorem cntV_all {s : ByteArray} (hs : s.size ≤ 40) : cntV s 0 (-1) = (bsum s 0 (8 * s.size) : Int) := by
  unfold cntV
  rw [if_pos ⟨hs, rfl, rfl⟩, (ends_all s.size).1, (ends_all s.size).2, Nat.sub_zero, ← bsum_pcs, Nat.mul_zero]
theorem bsum_none {s : ByteArray} : ∀ n, (∀ j, j < n → bit s j ≠ 1) → bsum s 0 n = 0
  | 0, _ => rfl
  | n + 1, h => by
    have := bsum_none n (fun j hj => h j (by omega))
    have h1 := h n (by omega)
    have h2 := bit_lt s n
    rw [bsum, this, Nat.zero_add, Nat.zero_add]; omega
theorem implCount_any (s : ByteArray) (f t : Int) (w : World) : Calls Try.prog 11 #[.string s, .int .i64 f, .int .i64 t] w fun e w' => e = .returned (.int .i64 (cntV s f t)) ∧ Below w.heap.size w w' := by
  by_cases h : s.size ≤ 40 ∧ placeB f = true ∧ placeB t = true
  · exact implCount_in s f t h.1 h.2.1 h.2.2 w
  · exact (implNoC_any s f t w h).mono fun e w' ⟨h1, h2⟩ => ⟨h1, by rw [← h2]; exact Below.refl _ _⟩
theorem specCount_all (s : ByteArray) (f t : Int) (w : World) : Calls Try.prog 13 #[.string s, .int .i64 f, .int .i64 t] w fun e w' => e = .returned (.int .i64 (cntV s f t)) ∧ w = w' := by
  by_cases h : s.size ≤ 40 ∧ placeB f = true ∧ placeB t = true
  · exact specCount_any s f t h.1 h.2.1 h.2.2 w
  · exact specNoC_any s f t w h
end Go.Proofs.Ytnpkegmkmhambaa
