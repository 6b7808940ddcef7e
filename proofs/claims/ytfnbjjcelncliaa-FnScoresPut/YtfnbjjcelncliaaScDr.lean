/- A row taken out of a table that is ok: the program's ScoresDrop. -/
import Derived.Test.YtfnbjjcelncliaaScWo
import Derived.Test.YtfnbjjcelncliaaScH
namespace Go.Proofs.Ytfnbjjcelncliaa
open Go.RowKit

def scDropR (l : List (ByteArray × Int)) (s : ByteArray) : List (ByteArray × Int) := if scOkB l = true then scWo l s else []
def scDropB (l : List (ByteArray × Int)) (s : ByteArray) : Bool := decide (0 ≤ scFindI l s)

set_option maxHeartbeats 8000000 in
set_option maxRecDepth 20000 in
theorem scDrop_any (v : Value) (l : List (ByteArray × Int)) (s : ByteArray) (w : World) (hr : ScReads w v l) (hlen : l.length ≤ 1048576) :
    Calls Try.prog 38 #[.agg #[v, .int .i64 16, .func (.func 48) #[] #[], .func (.func 49) #[] #[], .func (.func 50) #[] #[]], .string s] w fun e w' => ∃ x, e = .returned (.tuple #[x, .bool (scDropB l s)]) ∧ ScOwns w' w.heap.size x (scDropR l s) ∧ Below w.heap.size w w' := by
  have hrs := fun (k : Nat) (w : World) (a : Addr) => run_store Try.prog w a (.func (.func k) #[] #[]) .plain rfl
  obtain ⟨ao, cap, rfl⟩ := readsR_shape hr
  obtain ⟨W0, hW0⟩ : ∃ W0, w.alloc (.cells #[.slice ao l.length cap, .int .i64 16, .func (.func 48) #[] #[], .func (.func 49) #[] #[], .func (.func 50) #[] #[]] 64) = W0 := ⟨_, rfl⟩
  have hB0 : Below w.heap.size w W0 := by rw [← hW0]; exact (Below.refl _ w).alloc (Nat.le_refl _) _
  have hz0 : w.heap.size + 1 ≤ W0.heap.size := by rw [← hW0]; simp
  have hbx : Box5 W0 w.heap.size (.slice ao l.length cap) (.int .i64 16) (.func (.func 48) #[] #[]) (.func (.func 49) #[] #[]) (.func (.func 50) #[] #[]) := by
    rw [← hW0]; exact box5_row (heap_alloc_new w _)
  have e0 := hbx.c0
  have e1 := hbx.c1
  have e2 := hbx.c2
  have e3 := hbx.c3
  have e4 := hbx.c4
  go_enter Try.func38, Try.ntmps38
  go_wp2_with fail
  clear hW0 e0 e1 e2 e3 e4
  refine (scOk_any _ l _ (readsR_kept hr hB0) hlen).mono ?_
  rintro e w1 ⟨rfl, hb1⟩
  have hz1 := hb1.size
  have hB1 := hB0.trans (hb1.mono hB0.size)
  have hbx1 := box5_below hbx hb1 (by omega)
  clear hbx hB0 hb1
  cases hok : scOkB l with
  | false =>
    have HR : Hid (scDropR l s = []) := by show _ = _; unfold scDropR; rw [hok]; rfl
    have HD : Hid (scDropB l s = false) := by show _ = _; unfold scDropB scFindI; rw [hok]; rfl
    clear hok
    go_wp2_with fail
    go_ret2
    exact ⟨_, by rw [HD.out]; rfl, by rw [HR.out]; exact World.ownsRow_nil _ _ _ _, hB1⟩
  | true =>
    have HR : Hid (scDropR l s = scWo l s) := by show _ = _; unfold scDropR; rw [hok]; rfl
    have HD : Hid (scDropB l s = decide (0 ≤ scPlc l s)) := by show _ = _; unfold scDropB scFindI; rw [hok]; rfl
    clear hok
    have e0 := hbx1.c0
    have e1 := hbx1.c1
    have e2 := hbx1.c2
    have e3 := hbx1.c3
    have e4 := hbx1.c4
    go_wp2_with fail
    refine (scWithout_any _ l s _ (readsR_kept hr hB1) hlen).mono ?_
    rintro e w2 ⟨x, rfl, ho2, hb2⟩
    have hz2 := hb2.size
    have hB2 := hB1.trans (hb2.mono hB1.size)
    obtain ⟨ax, cx, hxv⟩ := readsR_shape (ownsR_reads scC_len ho2)
    subst hxv
    have ho3 := World.ownsRow.alloc ho2 (.cells #[.slice ax (scWo l s).length cx, .int .i64 16, .func (.func 48) #[] #[], .func (.func 49) #[] #[], .func (.func 50) #[] #[]] 64)
    have hB3 := hB2.alloc (by omega) (.cells #[.slice ax (scWo l s).length cx, .int .i64 16, .func (.func 48) #[] #[], .func (.func 49) #[] #[], .func (.func 50) #[] #[]] 64)
    generalize scWo l s = R at *
    clear e0 e1 e2 e3 e4 hbx1 hB1 hb2 ho2 hB2
    go_wp2_with fail
    go_ret2
    exact ⟨_, by rw [HD.out]; rfl, by rw [HR.out]; exact ownsR_base ho3 (by omega), hB3⟩

set_option maxHeartbeats 4000000 in
theorem implScoresDrop_any (v : Value) (l : List (ByteArray × Int)) (s : ByteArray) (w : World) (hr : ScReads w v l) (hlen : l.length ≤ 1048576) :
    Calls Try.prog 13 #[v, .string s] w fun e w' => ∃ x, e = .returned (.tuple #[x, .bool (scDropB l s)]) ∧ ScOwns w' w.heap.size x (scDropR l s) ∧ Below w.heap.size w w' := by
  obtain ⟨ao, cap, rfl⟩ := readsR_shape hr
  go_enter Try.func13, Try.ntmps13
  go_wp2_with fail
  refine (scTable_any _ _ _ _).mono ?_
  rintro e w1 ⟨rfl, hb1⟩
  have hr1 := readsR_kept hr hb1
  have hz1 := hb1.size
  go_wp2_with fail
  refine (scDrop_any _ l s _ hr1 hlen).mono ?_
  rintro e w2 ⟨x, rfl, ho2, hb2⟩
  have hB2 := hb1.trans (hb2.mono hb1.size)
  have ho3 := ownsR_base ho2 hz1
  clear hb1 hb2 hr1 ho2
  go_wp2_with fail
  go_ret2
  exact ⟨_, rfl, ho3, hB2⟩
end Go.Proofs.Ytfnbjjcelncliaa
