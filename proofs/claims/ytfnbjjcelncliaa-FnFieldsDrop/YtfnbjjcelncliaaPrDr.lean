/- A row taken out of a table that is ok: the program's FieldsDrop. -/
import Derived.Test.YtfnbjjcelncliaaPrWo
import Derived.Test.YtfnbjjcelncliaaPrH
namespace Go.Proofs.Ytfnbjjcelncliaa
open Go.RowKit

def prDropR (l : List (ByteArray × ByteArray)) (s : ByteArray) : List (ByteArray × ByteArray) := if prOkB l = true then prWo l s else []
def prDropB (l : List (ByteArray × ByteArray)) (s : ByteArray) : Bool := decide (0 ≤ prFindI l s)

set_option maxHeartbeats 8000000 in
set_option maxRecDepth 20000 in
theorem prDrop_any (v : Value) (l : List (ByteArray × ByteArray)) (s : ByteArray) (w : World) (hr : PrReads w v l) (hlen : l.length ≤ 1048576) :
    Calls Try.prog 45 #[.agg #[v, .int .i64 16, .func (.func 57) #[] #[], .func (.func 58) #[] #[], .func (.func 59) #[] #[]], .string s] w fun e w' => ∃ x, e = .returned (.tuple #[x, .bool (prDropB l s)]) ∧ PrOwns w' w.heap.size x (prDropR l s) ∧ Below w.heap.size w w' := by
  have hrs := fun (k : Nat) (w : World) (a : Addr) => run_store Try.prog w a (.func (.func k) #[] #[]) .plain rfl
  obtain ⟨ao, cap, rfl⟩ := readsR_shape hr
  obtain ⟨W0, hW0⟩ : ∃ W0, w.alloc (.cells #[.slice ao l.length cap, .int .i64 16, .func (.func 57) #[] #[], .func (.func 58) #[] #[], .func (.func 59) #[] #[]] 78) = W0 := ⟨_, rfl⟩
  have hB0 : Below w.heap.size w W0 := by rw [← hW0]; exact (Below.refl _ w).alloc (Nat.le_refl _) _
  have hz0 : w.heap.size + 1 ≤ W0.heap.size := by rw [← hW0]; simp
  have hbx : Box5 W0 w.heap.size (.slice ao l.length cap) (.int .i64 16) (.func (.func 57) #[] #[]) (.func (.func 58) #[] #[]) (.func (.func 59) #[] #[]) := by
    rw [← hW0]; exact box5_row (heap_alloc_new w _)
  have e0 := hbx.c0
  have e1 := hbx.c1
  have e2 := hbx.c2
  have e3 := hbx.c3
  have e4 := hbx.c4
  go_enter Try.func45, Try.ntmps45
  go_wp2_with fail
  clear hW0 e0 e1 e2 e3 e4
  refine (prOk_any _ l _ (readsR_kept hr hB0) hlen).mono ?_
  rintro e w1 ⟨rfl, hb1⟩
  have hz1 := hb1.size
  have hB1 := hB0.trans (hb1.mono hB0.size)
  have hbx1 := box5_below hbx hb1 (by omega)
  clear hbx hB0 hb1
  cases hok : prOkB l with
  | false =>
    have HR : Hid (prDropR l s = []) := by show _ = _; unfold prDropR; rw [hok]; rfl
    have HD : Hid (prDropB l s = false) := by show _ = _; unfold prDropB prFindI; rw [hok]; rfl
    clear hok
    go_wp2_with fail
    go_ret2
    exact ⟨_, by rw [HD.out]; rfl, by rw [HR.out]; exact World.ownsRow_nil _ _ _ _, hB1⟩
  | true =>
    have HR : Hid (prDropR l s = prWo l s) := by show _ = _; unfold prDropR; rw [hok]; rfl
    have HD : Hid (prDropB l s = decide (0 ≤ prPlc l s)) := by show _ = _; unfold prDropB prFindI; rw [hok]; rfl
    clear hok
    have e0 := hbx1.c0
    have e1 := hbx1.c1
    have e2 := hbx1.c2
    have e3 := hbx1.c3
    have e4 := hbx1.c4
    go_wp2_with fail
    refine (prWithout_any _ l s _ (readsR_kept hr hB1) hlen).mono ?_
    rintro e w2 ⟨x, rfl, ho2, hb2⟩
    have hz2 := hb2.size
    have hB2 := hB1.trans (hb2.mono hB1.size)
    obtain ⟨ax, cx, hxv⟩ := readsR_shape (ownsR_reads prC_len ho2)
    subst hxv
    have ho3 := World.ownsRow.alloc ho2 (.cells #[.slice ax (prWo l s).length cx, .int .i64 16, .func (.func 57) #[] #[], .func (.func 58) #[] #[], .func (.func 59) #[] #[]] 78)
    have hB3 := hB2.alloc (by omega) (.cells #[.slice ax (prWo l s).length cx, .int .i64 16, .func (.func 57) #[] #[], .func (.func 58) #[] #[], .func (.func 59) #[] #[]] 78)
    generalize prWo l s = R at *
    clear e0 e1 e2 e3 e4 hbx1 hB1 hb2 ho2 hB2
    go_wp2_with fail
    go_ret2
    exact ⟨_, by rw [HD.out]; rfl, by rw [HR.out]; exact ownsR_base ho3 (by omega), hB3⟩

set_option maxHeartbeats 4000000 in
theorem implFieldsDrop_any (v : Value) (l : List (ByteArray × ByteArray)) (s : ByteArray) (w : World) (hr : PrReads w v l) (hlen : l.length ≤ 1048576) :
    Calls Try.prog 21 #[v, .string s] w fun e w' => ∃ x, e = .returned (.tuple #[x, .bool (prDropB l s)]) ∧ PrOwns w' w.heap.size x (prDropR l s) ∧ Below w.heap.size w w' := by
  obtain ⟨ao, cap, rfl⟩ := readsR_shape hr
  go_enter Try.func21, Try.ntmps21
  go_wp2_with fail
  refine (prTable_any _ _ _ _).mono ?_
  rintro e w1 ⟨rfl, hb1⟩
  have hr1 := readsR_kept hr hb1
  have hz1 := hb1.size
  go_wp2_with fail
  refine (prDrop_any _ l s _ hr1 hlen).mono ?_
  rintro e w2 ⟨x, rfl, ho2, hb2⟩
  have hB2 := hb1.trans (hb2.mono hb1.size)
  have ho3 := ownsR_base ho2 hz1
  clear hb1 hb2 hr1 ho2
  go_wp2_with fail
  go_ret2
  exact ⟨_, rfl, ho3, hB2⟩
end Go.Proofs.Ytfnbjjcelncliaa
