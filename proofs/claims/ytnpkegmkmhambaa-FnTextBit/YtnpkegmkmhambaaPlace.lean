/- Places of a list: the model's and the program's reckonings. -/
import Derived.Test.YtnpkegmkmhambaaOkS
namespace Go.Proofs.Ytnpkegmkmhambaa
open Go.RowKit

def inB (n lo hi : Int) : Bool := decide (lo ≤ n) && decide (n ≤ hi)
theorem l1In_any (n lo hi : Int) (w : World) :
    Calls Try.prog 24 #[.int .i64 n, .int .i64 lo, .int .i64 hi] w fun e w' => e = .returned (.bool (inB n lo hi)) ∧ w = w' := by
  by_cases h1 : lo ≤ n
  · go_enter Try.func24, Try.ntmps24
    go_wp2
    go_ret
    exact ⟨by simp [inB, h1], rfl⟩
  · have h2 : n < lo := by omega
    have h3 : ¬ lo ≤ n := h1
    clear h1
    go_enter Try.func24, Try.ntmps24
    go_wp2
    go_ret
    exact ⟨by simp [inB]; omega, rfl⟩
def placeB (n : Int) : Bool := inB n (-1000000000) 1000000000
theorem l2Place_any (n : Int) (w : World) : Calls Try.prog 34 #[.int .i64 n] w fun e w' => e = .returned (.bool (placeB n)) ∧ w = w' := by
  go_enter Try.func34, Try.ntmps34
  go_wp2_with (go_at_call 24; refine (l1In_any _ _ _ _).mono ?_; rintro e w' ⟨rfl, rfl⟩)
  go_ret
  exact ⟨rfl, rfl⟩
theorem placeOk_any (n : Int) (w : World) : Calls Try.prog 27 #[.int .i64 n] w fun e w' => e = .returned (.bool (placeB n)) ∧ w = w' := by
  by_cases h1 : -1000000000 ≤ n
  · go_enter Try.func27, Try.ntmps27
    go_wp2
    go_ret
    exact ⟨by simp [placeB, inB, h1], rfl⟩
  · have h2 : n < -1000000000 := by omega
    clear h1
    go_enter Try.func27, Try.ntmps27
    go_wp2
    go_ret
    exact ⟨by simp [placeB, inB]; omega, rfl⟩
theorem place_bd {n : Int} (h : placeB n = true) : -1000000000 ≤ n ∧ n ≤ 1000000000 := by simpa [placeB, inB] using h

/-- a first place, told from the front -/
def fromP (n f : Int) : Int := if f < 0 then (if f + n < 0 then 0 else f + n) else f
def toP (n t : Int) : Int := let u := if t < 0 then t + n else t; if n ≤ u then n - 1 else u
def endA (n f t : Int) : Nat := if toP n t < fromP n f then 0 else (fromP n f).toNat
def endE (n f t : Int) : Nat := if toP n t < fromP n f then 0 else (toP n t + 1).toNat
theorem ends_le {n : Nat} (f t : Int) : endA n f t ≤ endE n f t ∧ endE n f t ≤ n := by
  unfold endA endE fromP toP
  simp only []
  repeat' split
  all_goals omega
theorem ends_of {n f t : Int} {x y : Int} (hx : fromP n f = x) (hy : toP n t = y) (h : ¬ y < x) (h0 : 0 ≤ x) : (endA n f t : Int) = x ∧ (endE n f t : Int) = y + 1 := by
  unfold endA endE; rw [hx, hy, if_neg h, if_neg h]; omega
theorem ends_no {n f t : Int} {x y : Int} (hx : fromP n f = x) (hy : toP n t = y) (h : y < x) : (endA n f t : Int) = 0 ∧ (endE n f t : Int) = 0 := by
  unfold endA endE; rw [hx, hy, if_pos h, if_pos h]; omega
theorem ret_ii {a b c d : Int} (h1 : a = c) (h2 : b = d) : Ending.returned (.tuple #[.int .i64 a, .int .i64 b]) = .returned (.tuple #[.int .i64 c, .int .i64 d]) := by rw [h1, h2]

set_option maxHeartbeats 2000000 in
theorem l2Ends_any (n f t : Int) (w : World) (hn0 : 0 ≤ n) (hn : n ≤ 1000) (hf : -1000000000 ≤ f ∧ f ≤ 1000000000) (ht : -1000000000 ≤ t ∧ t ≤ 1000000000) :
    Calls Try.prog 35 #[.int .i64 n, .int .i64 f, .int .i64 t] w fun e w' => e = .returned (.tuple #[.int .i64 (endA n f t), .int .i64 (endE n f t)]) ∧ w = w' := by
  obtain ⟨hf1, hf2⟩ := hf
  obtain ⟨ht1, ht2⟩ := ht
  go_enter Try.func35, Try.ntmps35
  go_wp2
  all_goals go_ret2
  all_goals refine ⟨ret_ii ?_ ?_, rfl⟩
  all_goals (simp only [endA, endE, fromP, toP]; (repeat' split) <;> omega)

set_option maxHeartbeats 2000000 in
theorem placesBetween_any (n f t : Int) (w : World) (hn0 : 0 ≤ n) (hn : n ≤ 1000) (hf : -1000000000 ≤ f ∧ f ≤ 1000000000) (ht : -1000000000 ≤ t ∧ t ≤ 1000000000) :
    Calls Try.prog 28 #[.int .i64 n, .int .i64 f, .int .i64 t] w fun e w' => e = .returned (.tuple #[.int .i64 (endA n f t), .int .i64 (endE n f t)]) ∧ w = w' := by
  obtain ⟨hf1, hf2⟩ := hf
  obtain ⟨ht1, ht2⟩ := ht
  go_enter Try.func28, Try.ntmps28
  go_wp2
  all_goals go_ret2
  all_goals refine ⟨ret_ii ?_ ?_, rfl⟩
  all_goals (simp only [endA, endE, fromP, toP]; (repeat' split) <;> omega)
/-- texts from one place to another one -/
def rng (l : List ByteArray) (f t : Int) : List ByteArray := (l.take (endE l.length f t)).drop (endA l.length f t)
end Go.Proofs.Ytnpkegmkmhambaa
