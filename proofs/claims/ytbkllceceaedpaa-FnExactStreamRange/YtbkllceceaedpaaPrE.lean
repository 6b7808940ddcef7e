/- Whether Fields are ok: the program's and the model's: one bool. -/
import Derived.Test.YtbkllceceaedpaaPrD
import Derived.Sort.Walk0
namespace Go.Proofs.Ytbkllceceaedpaa
open Go.RowKit

set_option maxHeartbeats 2000000 in
theorem prTable_any (ao : Option Addr) (n cap : Nat) (w : World) :
    Calls Try.prog 94 #[.slice ao n cap] w fun e w' => e = .returned (.agg #[.slice ao n cap, .int .i64 16, .func (.func 108) #[] #[], .func (.func 109) #[] #[], .func (.func 110) #[] #[]]) ∧ Below w.heap.size w w' := by
  have hrs := fun (k : Nat) (w : World) (a : Addr) => run_store Try.prog w a (.func (.func k) #[] #[]) .plain rfl
  go_enter Try.func94, Try.ntmps94
  go_wp2_with fail
  refine bodyPost_ret (results_cell_row rfl _ _ w.heap.size 135 #[.slice ao n cap, .int .i64 16, .func (.func 108) #[] #[], .func (.func 109) #[] #[], .func (.func 110) #[] #[]] (0, 0) _ rfl (heap_alloc_new _ _) Try.underlying135 rfl (by kernel_rfl)) rfl ?_
  exact ⟨rfl, (Below.refl _ w).alloc (Nat.le_refl _) _⟩

set_option maxHeartbeats 2000000 in
theorem implFieldsOk_any (v : Value) (l : List (ByteArray × ByteArray)) (w : World) (hr : PrReads w v l) (hlen : l.length ≤ 1048576) :
    Calls Try.prog 75 #[v] w fun e w' => e = .returned (.bool (prOkB l)) ∧ Below w.heap.size w w' := by
  obtain ⟨ao, cap, rfl⟩ := readsR_shape hr
  go_enter Try.func75, Try.ntmps75
  go_wp2_with fail
  refine (prTable_any _ _ _ _).mono ?_
  rintro e w1 ⟨rfl, hb1⟩
  have hr1 := readsR_kept hr hb1
  go_wp2_with fail
  refine (prOk_any _ l _ hr1 hlen).mono ?_
  rintro e w2 ⟨rfl, hb2⟩
  have hB2 := hb1.trans (hb2.mono hb1.size)
  clear hb1 hb2 hr1
  go_wp2_with fail
  go_ret
  exact ⟨rfl, hB2⟩



theorem prLt_irrefl (a : ByteArray) : prLt a a = false := by
  cases h : prLt a a with
  | false => rfl
  | true => unfold prLt at h; rw [bytesLess_eq] at h; exact absurd (by simpa using h) (List.lt_irrefl _)
theorem prLt_trans {a b c : ByteArray} (h1 : prLt a b = true) (h2 : prLt b c = true) : prLt a c = true := by
  unfold prLt at *; rw [bytesLess_eq] at *
  simp only [decide_eq_true_eq] at *
  exact List.lt_trans h1 h2
theorem prRow_asc {l : List (ByteArray × ByteArray)} {j : Nat} (h : prRowOk l (j + 1) = true) : prLt (prAt l j).1 (prAt l (j + 1)).1 = true := by
  unfold prRowOk prAheadB at h
  rw [Nat.add_sub_cancel] at h
  simp only [Bool.and_eq_true, Bool.or_eq_true, decide_eq_true_eq] at h
  rcases h.1.2 with h' | h'
  · omega
  · exact h'
theorem prAsc_to {l : List (ByteArray × ByteArray)} {k : Nat} (h : prOkTo l k) : ∀ (d i : Nat), i + d + 1 < k → prLt (prAt l i).1 (prAt l (i + d + 1)).1 = true := by
  intro d
  induction d with
  | zero => intro i hi; exact prRow_asc (h (i + 1) (by omega))
  | succ d ih => intro i hi; exact prLt_trans (ih i (by omega)) (prRow_asc (h (i + (d + 1) + 1) hi))
theorem prPlc_asc {l : List (ByteArray × ByteArray)} {k : Nat} (hk : k < l.length) (h : prOkTo l k) (ha : k = 0 ∨ prLt (prAt l (k - 1)).1 (prAt l k).1 = true) : prPlc l (prAt l k).1 = (k : Int) := by
  refine (prPlc_hit hk (fun i hi => ?_) rfl).2
  rcases ha with ha | ha
  · omega
  have hlt : prLt (prAt l i).1 (prAt l k).1 = true := by
    by_cases e : i = k - 1
    · rw [e]; exact ha
    · have := prAsc_to h (k - 1 - i - 1) i (by omega)
      rw [show i + (k - 1 - i - 1) + 1 = k - 1 by omega] at this
      exact prLt_trans this ha
  intro e; rw [e, prLt_irrefl] at hlt; cases hlt
end Go.Proofs.Ytbkllceceaedpaa
