/- The place of a name in a table that is ok: the program's and the model's. -/
import Derived.Test.YtfnbjjcelncliaaPrF
namespace Go.Proofs.Ytfnbjjcelncliaa
open Go.RowKit

def prFindI (l : List (ByteArray × ByteArray)) (s : ByteArray) : Int := if prOkB l = true then prPlc l s else -1
theorem prPlc_bd (l : List (ByteArray × ByteArray)) (s : ByteArray) : -1 ≤ prPlc l s ∧ prPlc l s < l.length ∨ l.length = 0 ∧ prPlc l s = -1 := by
  unfold prPlc; split
  · left; omega
  · rcases Nat.eq_zero_or_pos l.length with h | h
    · exact .inr ⟨h, rfl⟩
    · left; omega

set_option maxHeartbeats 4000000 in
theorem prFind_any (v : Value) (l : List (ByteArray × ByteArray)) (s : ByteArray) (w : World) (hr : PrReads w v l) (hlen : l.length ≤ 1048576) :
    Calls Try.prog 44 #[.agg #[v, .int .i64 16, .func (.func 57) #[] #[], .func (.func 58) #[] #[], .func (.func 59) #[] #[]], .string s] w fun e w' => e = .returned (.tuple #[.int .i64 (prFindI l s), .bool (decide (0 ≤ prFindI l s))]) ∧ Below w.heap.size w w' := by
  obtain ⟨ao, cap, rfl⟩ := readsR_shape hr
  have hB0 : Below w.heap.size w (w.alloc (.cells #[.slice ao l.length cap, .int .i64 16, .func (.func 57) #[] #[], .func (.func 58) #[] #[], .func (.func 59) #[] #[]] 78)) := (Below.refl _ w).alloc (Nat.le_refl _) _
  have hrow := heap_alloc_new w (.cells #[.slice ao l.length cap, .int .i64 16, .func (.func 57) #[] #[], .func (.func 58) #[] #[], .func (.func 59) #[] #[]] 78)
  have HROW : Hid _ := hrow
  clear hrow
  go_enter Try.func44, Try.ntmps44
  go_wp2_with fail
  refine (prOk_any _ l _ (readsR_kept hr hB0) hlen).mono ?_
  rintro e w1 ⟨rfl, hb1⟩
  have hB1 : Below w.heap.size w w1 := hB0.trans (hb1.mono (by simp))
  have hsz : w.heap.size < (w.alloc (.cells #[.slice ao l.length cap, .int .i64 16, .func (.func 57) #[] #[], .func (.func 58) #[] #[], .func (.func 59) #[] #[]] 78)).heap.size := by simp
  have hrow1 := (hb1.block _ hsz).trans HROW.out
  have hx0 : w1.cell? ⟨w.heap.size, 0, none⟩ = some (.slice ao l.length cap) := by rw [cell_of_row _ _ _ _ _ _ hrow1]; rfl
  have hxm : w1.cell? ⟨w.heap.size, 1, none⟩ = some (.int .i64 16) := by rw [cell_of_row _ _ _ _ _ _ hrow1]; rfl
  have hx1 : w1.cell? ⟨w.heap.size, 2, none⟩ = some (.func (.func 57) #[] #[]) := by rw [cell_of_row _ _ _ _ _ _ hrow1]; rfl
  have hx2 : w1.cell? ⟨w.heap.size, 3, none⟩ = some (.func (.func 58) #[] #[]) := by rw [cell_of_row _ _ _ _ _ _ hrow1]; rfl
  have hx3 : w1.cell? ⟨w.heap.size, 4, none⟩ = some (.func (.func 59) #[] #[]) := by rw [cell_of_row _ _ _ _ _ _ hrow1]; rfl
  have hr1 := readsR_kept hr hB1
  clear hb1 hsz hrow1 HROW hB0
  cases hok : prOkB l with
  | false =>
    have HF : Hid (prFindI l s = -1) := by show _ = _; unfold prFindI; rw [hok]; rfl
    clear hok
    go_wp2_with fail
    go_ret2
    exact ⟨by rw [HF.out]; rfl, hB1⟩
  | true =>
    have HF : Hid (prFindI l s = prPlc l s) := by show _ = _; unfold prFindI; rw [hok]; rfl
    clear hok
    go_wp2_with fail
    refine (prPlace_any _ l s _ hr1 hlen).mono ?_
    rintro e w2 ⟨rfl, hb2⟩
    have hB2 : Below w.heap.size w w2 := hB1.trans (hb2.mono hB1.size)
    clear hb2 hx0 hx1 hx2 hx3
    go_wp2_with fail
    go_ret2
    exact ⟨by rw [HF.out]; rfl, hB2⟩


end Go.Proofs.Ytfnbjjcelncliaa
