/- Whether Scores are ok: the program's and the model's: one bool. -/
import Derived.Test.YtaiboncomibikaaGreatDoorScD
import Derived.Sort.Walk0
namespace Go.Proofs.YtaiboncomibikaaGreatDoor
open Go.RowKit

set_option maxHeartbeats 2000000 in
theorem scTable_any (ao : Option Addr) (n cap : Nat) (w : World) :
    Calls Tryz.prog 109 #[.slice ao n cap] w fun e w' => e = .returned (.agg #[.slice ao n cap, .int .i64 16, .func (.func 111) #[] #[], .func (.func 112) #[] #[], .func (.func 113) #[] #[]]) ∧ Below w.heap.size w w' := by
  have hrs := fun (k : Nat) (w : World) (a : Addr) => run_store Tryz.prog w a (.func (.func k) #[] #[]) .plain rfl
  go_enter Tryz.func109, Tryz.ntmps109
  go_wp2_with fail
  refine bodyPost_ret (results_cell_row rfl _ _ w.heap.size 143 #[.slice ao n cap, .int .i64 16, .func (.func 111) #[] #[], .func (.func 112) #[] #[], .func (.func 113) #[] #[]] (0, 0) _ rfl (heap_alloc_new _ _) Tryz.underlying143 rfl (by kernel_rfl)) rfl ?_
  exact ⟨rfl, (Below.refl _ w).alloc (Nat.le_refl _) _⟩

set_option maxHeartbeats 2000000 in
theorem implScoresOk_any (v : Value) (l : List (ByteArray × Int)) (w : World) (hr : ScReads w v l) (hlen : l.length ≤ 1048576) :
    Calls Tryz.prog 108 #[v] w fun e w' => e = .returned (.bool (scOkB l)) ∧ Below w.heap.size w w' := by
  obtain ⟨ao, cap, rfl⟩ := readsR_shape hr
  go_enter Tryz.func108, Tryz.ntmps108
  go_wp2_with fail
  refine (scTable_any _ _ _ _).mono ?_
  rintro e w1 ⟨rfl, hb1⟩
  have hr1 := readsR_kept hr hb1
  go_wp2_with fail
  refine (scOk_any _ l _ hr1 hlen).mono ?_
  rintro e w2 ⟨rfl, hb2⟩
  have hB2 := hb1.trans (hb2.mono hb1.size)
  clear hb1 hb2 hr1
  go_wp2_with fail
  go_ret
  exact ⟨rfl, hB2⟩

set_option maxHeartbeats 1000000 in
theorem l1In_any (n lo hi : Int) (w : World) :
    Calls Tryz.prog 24 #[.int .i64 n, .int .i64 lo, .int .i64 hi] w fun e w' => e = .returned (.bool (decide (lo ≤ n) && decide (n ≤ hi))) ∧ w = w' := by
  rcases Int.lt_or_le n lo with h | h
  · have h1 : decide (lo ≤ n) = false := by simp; omega
    go_enter Tryz.func24, Tryz.ntmps24
    go_wp2_with fail
    go_ret
    exact ⟨ret_bool (by simp [show ¬ lo ≤ n by omega]), rfl⟩
  · have h1 : decide (lo ≤ n) = true := by simp; omega
    go_enter Tryz.func24, Tryz.ntmps24
    go_wp2_with fail
    go_ret
    exact ⟨ret_bool (by simp [h]), rfl⟩

set_option maxHeartbeats 2000000 in
theorem l3Ahead_any (x y : (ByteArray × Int)) (w : World) :
    Calls Tryz.prog 61 #[.agg #[.string x.1, .int .i64 x.2], .agg #[.string y.1, .int .i64 y.2]] w fun e w' => e = .returned (.bool (scAheadB x y)) ∧ Below w.heap.size w w' := by
  have hB : ∀ A B, Below w.heap.size w ((w.alloc A).alloc B) := fun A B => ((Below.refl _ w).alloc (Nat.le_refl _) A).alloc (by simp) B
  rcases Int.lt_or_le x.2 y.2 with h | h
  · have h1 : decide (x.2 < y.2) = true := by simpa using h
    have HF : Hid (scAheadB x y = true) := by show _ = _; unfold scAheadB; rw [h1]; rfl
    clear h
    go_enter Tryz.func61, Tryz.ntmps61
    go_wp2_with fail
    go_ret
    exact ⟨ret_bool HF.out.symm, hB _ _⟩
  · have h1 : decide (x.2 < y.2) = false := by simpa using h
    by_cases h2 : x.2 = y.2
    · have h3 : (x.2 == y.2) = true := by simpa using h2
      have HF : Hid (scAheadB x y = Op.bytesLess x.1.toList y.1.toList) := by show _ = _; unfold scAheadB scLt; rw [h1, decide_eq_true h2]; rfl
      clear h h2
      go_enter Tryz.func61, Tryz.ntmps61
      go_wp2_with fail
      go_ret
      exact ⟨ret_bool HF.out.symm, hB _ _⟩
    · have h3 : (x.2 == y.2) = false := by simpa using h2
      have HF : Hid (scAheadB x y = false) := by show _ = _; unfold scAheadB; rw [h1, decide_eq_false h2]; rfl
      clear h h2
      go_enter Tryz.func61, Tryz.ntmps61
      go_wp2_with fail
      go_ret
      exact ⟨ret_bool HF.out.symm, hB _ _⟩

end Go.Proofs.YtaiboncomibikaaGreatDoor
