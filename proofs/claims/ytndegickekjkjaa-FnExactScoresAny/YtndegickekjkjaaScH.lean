/- The place of a name in a table that is ok: the program's and the model's. -/
import Derived.Test.YtndegickekjkjaaScF
namespace Go.Proofs.Ytndegickekjkjaa
open Go.RowKit

def scFindI (l : List (ByteArray × Int)) (s : ByteArray) : Int := if scOkB l = true then scPlc l s else -1
theorem scPlc_bd (l : List (ByteArray × Int)) (s : ByteArray) : -1 ≤ scPlc l s ∧ scPlc l s < l.length ∨ l.length = 0 ∧ scPlc l s = -1 := by
  unfold scPlc; split
  · left; omega
  · rcases Nat.eq_zero_or_pos l.length with h | h
    · exact .inr ⟨h, rfl⟩
    · left; omega

set_option maxHeartbeats 4000000 in
theorem scFind_any (v : Value) (l : List (ByteArray × Int)) (s : ByteArray) (w : World) (hr : ScReads w v l) (hlen : l.length ≤ 1048576) :
    Calls Try.prog 46 #[.agg #[v, .int .i64 16, .func (.func 32) #[] #[], .func (.func 33) #[] #[], .func (.func 34) #[] #[]], .string s] w fun e w' => e = .returned (.tuple #[.int .i64 (scFindI l s), .bool (decide (0 ≤ scFindI l s))]) ∧ Below w.heap.size w w' := by
  obtain ⟨ao, cap, rfl⟩ := readsR_shape hr
  have hB0 : Below w.heap.size w (w.alloc (.cells #[.slice ao l.length cap, .int .i64 16, .func (.func 32) #[] #[], .func (.func 33) #[] #[], .func (.func 34) #[] #[]] 47)) := (Below.refl _ w).alloc (Nat.le_refl _) _
  have hrow := heap_alloc_new w (.cells #[.slice ao l.length cap, .int .i64 16, .func (.func 32) #[] #[], .func (.func 33) #[] #[], .func (.func 34) #[] #[]] 47)
  have HROW : Hid _ := hrow
  clear hrow
  go_enter Try.func46, Try.ntmps46
  go_wp2_with fail
  refine (scOk_any _ l _ (readsR_kept hr hB0) hlen).mono ?_
  rintro e w1 ⟨rfl, hb1⟩
  have hB1 : Below w.heap.size w w1 := hB0.trans (hb1.mono (by simp))
  have hsz : w.heap.size < (w.alloc (.cells #[.slice ao l.length cap, .int .i64 16, .func (.func 32) #[] #[], .func (.func 33) #[] #[], .func (.func 34) #[] #[]] 47)).heap.size := by simp
  have hrow1 := (hb1.block _ hsz).trans HROW.out
  have hx0 : w1.cell? ⟨w.heap.size, 0, none⟩ = some (.slice ao l.length cap) := by rw [cell_of_row _ _ _ _ _ _ hrow1]; rfl
  have hxm : w1.cell? ⟨w.heap.size, 1, none⟩ = some (.int .i64 16) := by rw [cell_of_row _ _ _ _ _ _ hrow1]; rfl
  have hx1 : w1.cell? ⟨w.heap.size, 2, none⟩ = some (.func (.func 32) #[] #[]) := by rw [cell_of_row _ _ _ _ _ _ hrow1]; rfl
  have hx2 : w1.cell? ⟨w.heap.size, 3, none⟩ = some (.func (.func 33) #[] #[]) := by rw [cell_of_row _ _ _ _ _ _ hrow1]; rfl
  have hx3 : w1.cell? ⟨w.heap.size, 4, none⟩ = some (.func (.func 34) #[] #[]) := by rw [cell_of_row _ _ _ _ _ _ hrow1]; rfl
  have hr1 := readsR_kept hr hB1
  clear hb1 hsz hrow1 HROW hB0
  cases hok : scOkB l with
  | false =>
    have HF : Hid (scFindI l s = -1) := by show _ = _; unfold scFindI; rw [hok]; rfl
    clear hok
    go_wp2_with fail
    go_ret2
    exact ⟨by rw [HF.out]; rfl, hB1⟩
  | true =>
    have HF : Hid (scFindI l s = scPlc l s) := by show _ = _; unfold scFindI; rw [hok]; rfl
    clear hok
    go_wp2_with fail
    refine (scPlace_any _ l s _ hr1 hlen).mono ?_
    rintro e w2 ⟨rfl, hb2⟩
    have hB2 : Below w.heap.size w w2 := hB1.trans (hb2.mono hB1.size)
    clear hb2 hx0 hx1 hx2 hx3
    go_wp2_with fail
    go_ret2
    exact ⟨by rw [HF.out]; rfl, hB2⟩

set_option maxHeartbeats 4000000 in
theorem implScoresRank_any (v : Value) (l : List (ByteArray × Int)) (s : ByteArray) (w : World) (hr : ScReads w v l) (hlen : l.length ≤ 1048576) :
    Calls Try.prog 37 #[v, .string s] w fun e w' => e = .returned (.int .i64 (scFindI l s)) ∧ Below w.heap.size w w' := by
  obtain ⟨ao, cap, rfl⟩ := readsR_shape hr
  go_enter Try.func37, Try.ntmps37
  go_wp2_with fail
  refine (scTable_any _ _ _ _).mono ?_
  rintro e w1 ⟨rfl, hb1⟩
  have hr1 := readsR_kept hr hb1
  go_wp2_with fail
  refine (scFind_any _ l s _ hr1 hlen).mono ?_
  rintro e w2 ⟨rfl, hb2⟩
  have hB2 := hb1.trans (hb2.mono hb1.size)
  clear hb1 hb2 hr1
  go_wp2_with fail
  go_ret
  exact ⟨rfl, hB2⟩

end Go.Proofs.Ytndegickekjkjaa
