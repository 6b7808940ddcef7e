/- Places of a list: the model's and the program's reckonings (a seat with scores). -/
import Derived.Test.YtkoheomkledleaaScE
namespace Go.Proofs.Ytkoheomkledleaa
open Go.RowKit

def placeB (n : Int) : Bool := decide (-1000000000 ≤ n) && decide (n ≤ 1000000000)
theorem l2Place_any (n : Int) (w : World) : Calls Try.prog 59 #[.int .i64 n] w fun e w' => e = .returned (.bool (placeB n)) ∧ w = w' := by
  go_enter Try.func59, Try.ntmps59
  go_wp2_with (go_at_call 51; refine (l1In_any _ _ _ _).mono ?_; rintro e w' ⟨rfl, rfl⟩)
  go_ret
  exact ⟨rfl, rfl⟩
theorem placeN_any (n : Int) (w : World) : Calls Try.prog 54 #[.int .i64 n] w fun e w' => e = .returned (.bool (placeB n)) ∧ w = w' := numberOk_any n w
theorem place_bd {n : Int} (h : placeB n = true) : -1000000000 ≤ n ∧ n ≤ 1000000000 := by simpa [placeB] using h

/-- a first place, told from the front -/
def fromP (n f : Int) : Int := if f < 0 then (if f + n < 0 then 0 else f + n) else f
def toP (n t : Int) : Int := let u := if t < 0 then t + n else t; if n ≤ u then n - 1 else u
def endA (n f t : Int) : Nat := if toP n t < fromP n f then 0 else (fromP n f).toNat
def endE (n f t : Int) : Nat := if toP n t < fromP n f then 0 else (toP n t + 1).toNat
theorem ends_le {n : Nat} (f t : Int) : endA n f t ≤ endE n f t ∧ endE n f t ≤ n := by
  unfold endA endE fromP toP
  simp only []
  repeat' split
  all_goals omega
theorem ends_of {n f t : Int} {x y : Int} (hx : fromP n f = x) (hy : toP n t = y) (h : ¬ y < x) (h0 : 0 ≤ x) : (endA n f t : Int) = x ∧ (endE n f t : Int) = y + 1 := by
  unfold endA endE; rw [hx, hy, if_neg h, if_neg h]; omega
theorem ends_no {n f t : Int} {x y : Int} (hx : fromP n f = x) (hy : toP n t = y) (h : y < x) : (endA n f t : Int) = 0 ∧ (endE n f t : Int) = 0 := by
  unfold endA endE; rw [hx, hy, if_pos h, if_pos h]; omega
theorem ret_ii {a b c d : Int} (h1 : a = c) (h2 : b = d) : Ending.returned (.tuple #[.int .i64 a, .int .i64 b]) = .returned (.tuple #[.int .i64 c, .int .i64 d]) := by rw [h1, h2]

set_option maxHeartbeats 2000000 in
theorem l2Ends_any (n f t : Int) (w : World) (hn0 : 0 ≤ n) (hn : n ≤ 16) (hf : -1000000000 ≤ f ∧ f ≤ 1000000000) (ht : -1000000000 ≤ t ∧ t ≤ 1000000000) :
    Calls Try.prog 60 #[.int .i64 n, .int .i64 f, .int .i64 t] w fun e w' => e = .returned (.tuple #[.int .i64 (endA n f t), .int .i64 (endE n f t)]) ∧ w = w' := by
  obtain ⟨hf1, hf2⟩ := hf
  obtain ⟨ht1, ht2⟩ := ht
  go_enter Try.func60, Try.ntmps60
  go_wp2
  all_goals go_ret2
  all_goals refine ⟨ret_ii ?_ ?_, rfl⟩
  all_goals (simp only [endA, endE, fromP, toP]; (repeat' split) <;> omega)

set_option maxHeartbeats 2000000 in
theorem placesBetween_any (n f t : Int) (w : World) (hn0 : 0 ≤ n) (hn : n ≤ 16) (hf : -1000000000 ≤ f ∧ f ≤ 1000000000) (ht : -1000000000 ≤ t ∧ t ≤ 1000000000) :
    Calls Try.prog 55 #[.int .i64 n, .int .i64 f, .int .i64 t] w fun e w' => e = .returned (.tuple #[.int .i64 (endA n f t), .int .i64 (endE n f t)]) ∧ w = w' := by
  obtain ⟨hf1, hf2⟩ := hf
  obtain ⟨ht1, ht2⟩ := ht
  go_enter Try.func55, Try.ntmps55
  go_wp2
  all_goals go_ret2
  all_goals refine ⟨ret_ii ?_ ?_, rfl⟩
  all_goals (simp only [endA, endE, fromP, toP]; (repeat' split) <;> omega)
end Go.Proofs.Ytkoheomkledleaa
