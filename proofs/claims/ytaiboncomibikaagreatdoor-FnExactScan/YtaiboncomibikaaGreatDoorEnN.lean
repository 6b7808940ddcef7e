/- Whether a base is ok, the program's. -/
import Derived.Test.YtaiboncomibikaaGreatDoorEnM
import Derived.Sort.Walk0
namespace Go.Proofs.YtaiboncomibikaaGreatDoor
open Go.RowKit
set_option linter.unusedVariables false

set_option maxRecDepth 100000 in
set_option maxHeartbeats 4000000 in
theorem entryTable_any (n : Int) (ao : Option Addr) (k cap : Nat) (w : World) :
    Calls Tryz.prog 27 #[bsV n (.slice ao k cap)] w fun x w' => x = .returned (.agg #[.slice ao k cap, .int .i64 12, .func (.func 47) #[] #[], .func (.func 48) #[] #[], .func (.func 44) #[] #[.pointer (some ⟨w.heap.size, 0, none⟩)]]) ∧ w'.heap[w.heap.size]? = some (.cells #[.int .i64 n, .slice ao k cap] 31 (0, 0)) ∧ Below w.heap.size w w' := by
  have hrs := fun (k : Nat) (w : World) (a : Addr) => run_store Tryz.prog w a (.func (.func k) #[] #[]) .plain rfl
  have hrt := fun (p : Option Addr) (w : World) (a : Addr) => run_store Tryz.prog w a (.func (.func 44) #[] #[.pointer p]) .plain rfl
  go_enter Tryz.func27, Tryz.ntmps27
  go_wp2_with fail
  refine bodyPost_ret (results_cell_row rfl _ _ (w.heap.size + 1) 61 #[.slice ao k cap, .int .i64 12, .func (.func 47) #[] #[], .func (.func 48) #[] #[], .func (.func 44) #[] #[.pointer (some ⟨w.heap.size, 0, none⟩)]] (0, 0) _ rfl (heap_alloc2_new _ _ _) Tryz.underlying61 rfl (by kernel_rfl)) rfl ?_
  exact ⟨rfl, (two_rows _ _ _).1, ((Below.refl _ w).alloc (Nat.le_refl _) _).alloc (by simp) _⟩
set_option maxRecDepth 100000 in
set_option maxHeartbeats 4000000 in
theorem implBaseOk_any (n : Int) (v : Value) (l : List Row) (w : World) (hr : EsReads w v l) (hs : EsSmall l) :
    Calls Tryz.prog 17 #[bsV n v] w fun x w' => x = .returned (.bool (bsOkB n (l.map Row.e))) ∧ Below w.heap.size w w' := by
  obtain ⟨ao, cap, rfl⟩ := readsR_shape hr.rows
  have hA : ∀ A, Below w.heap.size w (w.alloc A) := fun A => (Below.refl _ w).alloc (Nat.le_refl _) A
  have HR : Hid (∀ A, EsReads (w.alloc A) (.slice ao l.length cap) l) := fun A => esReads_kept hr (hA A)
  clear hr
  cases hT : nowOkB n with
  | false =>
    have HN : Hid (bsOkB n (l.map Row.e) = false) := by show _ = _; unfold bsOkB; rw [hT]; simp
    go_enter Tryz.func17, Tryz.ntmps17
    go_wp2_with (go_at_call 26; refine (timeOk_any _ _).mono ?_; rw [hT]; rintro x w' ⟨rfl, rfl⟩)
    go_ret
    exact ⟨ret_bool HN.out.symm, hA _⟩
  | true =>
    have HN : Hid (bsOkB n (l.map Row.e) = esOkB n (l.map Row.e)) := by show _ = _; unfold bsOkB esOkB; rw [hT, Bool.and_true, Bool.and_comm]
    go_enter Tryz.func17, Tryz.ntmps17
    go_wp2_with (go_at_call 26; refine (timeOk_any _ _).mono ?_; rw [hT]; rintro x w' ⟨rfl, rfl⟩)
    obtain ⟨w0, hW⟩ : ∃ W, w.alloc (.cells #[.int .i64 n, .slice ao l.length cap] 31) = W := ⟨_, rfl⟩
    have hA0 : Below w.heap.size w w0 := by rw [← hW]; exact hA _
    have hes0 : EsReads w0 (.slice ao l.length cap) l := by rw [← hW]; exact HR.out _
    rw [hW]
    clear hW hA HR
    refine (entryTable_any n ao l.length cap _).mono ?_
    rintro x w1 ⟨rfl, hrow, hb1⟩
    have hB1 := hA0.trans (hb1.mono hA0.size)
    have HRW : Hid _ := hrow
    have hes := esReads_kept hes0 hb1
    clear hb1 hrow hes0 hA0
    go_wp2_with fail
    refine (esOk_any _ l w0.heap.size n _ _ hes hs HRW.out).mono ?_
    rintro x w2 ⟨rfl, hb2⟩
    have hB2 := hB1.trans (hb2.mono hB1.size)
    clear hb2 hB1 hes HRW
    go_wp2_with fail
    go_ret
    exact ⟨ret_bool HN.out.symm, hB2⟩
end Go.Proofs.YtaiboncomibikaaGreatDoor
