/- The program's SetBoth, SetAny, SetLess. -/
import Derived.Test.YtlgchkmgbjcboaaSetY
namespace Go.Proofs.Ytlgchkmgbjcboaa
open Go.RowKit

def posR (m : Int) (a b : List ByteArray) : List ByteArray := if (setB a && setB b) = true then pickL m (mrg a b) else []
theorem setB_asc {a : List ByteArray} (h : setB a = true) : Asc a := by
  unfold setB at h; rw [Bool.and_eq_true] at h; exact asc_of h.1
theorem posR_both (a b : List ByteArray) : posR 4 a b = bothR a b := by
  unfold posR bothR
  cases h : (setB a && setB b) with
  | false => rfl
  | true =>
    rw [if_pos rfl, if_pos rfl]
    rw [Bool.and_eq_true] at h
    exact (pickL_M (setB_asc h.1) (setB_asc h.2) (m := 4) (.inr (.inl rfl))).trans (pickM_both (setB_asc h.1) (setB_asc h.2))
theorem posR_less (a b : List ByteArray) : posR 1 a b = lessR a b := by
  unfold posR lessR
  cases h : (setB a && setB b) with
  | false => rfl
  | true =>
    rw [if_pos rfl, if_pos rfl]
    rw [Bool.and_eq_true] at h
    exact (pickL_M (setB_asc h.1) (setB_asc h.2) (m := 1) (.inl rfl)).trans (pickM_less (setB_asc h.1) (setB_asc h.2))
def anyR (a b : List ByteArray) : List ByteArray := if (setB a && setB b) = true then putsM a b else []
theorem posR_any (a b : List ByteArray) : posR 7 a b = anyR a b := by
  unfold posR anyR
  cases h : (setB a && setB b) with
  | false => rfl
  | true =>
    rw [if_pos rfl, if_pos rfl]
    rw [Bool.and_eq_true] at h
    exact (pickL_M (setB_asc h.1) (setB_asc h.2) (m := 7) (.inr (.inr rfl))).trans (pickM_any (setB_asc h.1) (setB_asc h.2))

set_option maxHeartbeats 4000000 in
theorem pickOfSets_any (v u : Value) (a b : List ByteArray) (m : Int) (hm : m = 1 ∨ m = 4 ∨ m = 7) (w : World) (hr : Reads w v a) (hq : Reads w u b) (ha : a.length ≤ 1048576) (hb : b.length ≤ 1048576) :
    Calls Try.prog 45 #[v, u, .int .i64 m] w fun e w' => ∃ x, e = .returned x ∧ Owns w' w.heap.size x (posR m a b) ∧ Below w.heap.size w w' := by
  cases hsa : setB a with
  | false =>
    have HR : Hid (posR m a b = []) := by show _ = _; unfold posR; rw [hsa]; rfl
    go_enter Try.func45, Try.ntmps45
    go_wp2_with fail
    refine (implSetOk_any _ a _ hr ha).mono ?_
    rintro e w2 ⟨rfl, hb2⟩
    have hB2 := below_stepT (Below.refl _ w) hb2
    rw [hsa]
    go_wp2_with fail
    go_ret
    exact ⟨_, rfl, by rw [HR.out]; exact World.ownsRow_nil _ _ _ _, hB2⟩
  | true =>
    go_enter Try.func45, Try.ntmps45
    go_wp2_with fail
    refine (implSetOk_any _ a _ hr ha).mono ?_
    rintro e w2 ⟨rfl, hb2⟩
    have hB2 := below_stepT (Below.refl _ w) hb2
    rw [hsa]
    clear hb2
    go_wp2_with fail
    refine (implSetOk_any _ b _ (reads_kept hq hB2) hb).mono ?_
    rintro e w3 ⟨rfl, hb3⟩
    have hB3 := below_stepT hB2 hb3
    clear hb3 hB2
    cases hsb : setB b with
    | false =>
      have HR : Hid (posR m a b = []) := by show _ = _; unfold posR; rw [hsa, hsb]; rfl
      go_wp2_with fail
      go_ret
      exact ⟨_, rfl, by rw [HR.out]; exact World.ownsRow_nil _ _ _ _, hB3⟩
    | true =>
      have HR : Hid (posR m a b = pickL m (mrg a b)) := by show _ = _; unfold posR; rw [hsa, hsb]; rfl
      clear hsa hsb
      go_wp2_with fail
      refine (pickS_any _ _ a b m hm _ (reads_kept hr hB3) (reads_kept hq hB3) ha hb).mono ?_
      rintro e w4 ⟨x, rfl, ho4, hb4⟩
      have hB4 := hB3.trans (hb4.mono hB3.size)
      have ho5 : Owns w4 w.heap.size x (posR m a b) := by rw [HR.out]; exact owns_base ho4 hB3.size
      clear hb4 ho4 hB3 HR
      go_wp2_with fail
      go_ret
      exact ⟨_, rfl, ho5, hB4⟩
set_option maxHeartbeats 4000000 in
theorem implBoth_any (v u : Value) (a b : List ByteArray) (w : World) (hr : Reads w v a) (hq : Reads w u b) (ha : a.length ≤ 1048576) (hb : b.length ≤ 1048576) :
    Calls Try.prog 23 #[v, u] w fun e w' => ∃ x, e = .returned x ∧ Owns w' w.heap.size x (bothR a b) ∧ Below w.heap.size w w' := by
  go_enter Try.func23, Try.ntmps23
  go_wp2_with fail
  refine (pickOfSets_any _ _ a b 4 (by simp) _ hr hq ha hb).mono ?_
  rintro e w4 ⟨x, rfl, ho4, hb4⟩
  have ho5 : Owns w4 w.heap.size x (bothR a b) := by rw [← posR_both]; exact ho4
  clear ho4
  go_wp2_with fail
  go_ret
  exact ⟨_, rfl, ho5, hb4⟩
set_option maxHeartbeats 4000000 in
theorem implLess_any (v u : Value) (a b : List ByteArray) (w : World) (hr : Reads w v a) (hq : Reads w u b) (ha : a.length ≤ 1048576) (hb : b.length ≤ 1048576) :
    Calls Try.prog 25 #[v, u] w fun e w' => ∃ x, e = .returned x ∧ Owns w' w.heap.size x (lessR a b) ∧ Below w.heap.size w w' := by
  go_enter Try.func25, Try.ntmps25
  go_wp2_with fail
  refine (pickOfSets_any _ _ a b 1 (by simp) _ hr hq ha hb).mono ?_
  rintro e w4 ⟨x, rfl, ho4, hb4⟩
  have ho5 : Owns w4 w.heap.size x (lessR a b) := by rw [← posR_less]; exact ho4
  clear ho4
  go_wp2_with fail
  go_ret
  exact ⟨_, rfl, ho5, hb4⟩
set_option maxHeartbeats 4000000 in
theorem implAny_any (v u : Value) (a b : List ByteArray) (w : World) (hr : Reads w v a) (hq : Reads w u b) (ha : a.length ≤ 1048576) (hb : b.length ≤ 1048576) :
    Calls Try.prog 24 #[v, u] w fun e w' => ∃ x, e = .returned x ∧ Owns w' w.heap.size x (anyR a b) ∧ Below w.heap.size w w' := by
  go_enter Try.func24, Try.ntmps24
  go_wp2_with fail
  refine (pickOfSets_any _ _ a b 7 (by simp) _ hr hq ha hb).mono ?_
  rintro e w4 ⟨x, rfl, ho4, hb4⟩
  have ho5 : Owns w4 w.heap.size x (anyR a b) := by rw [← posR_any]; exact ho4
  clear ho4
  go_wp2_with fail
  go_ret
  exact ⟨_, rfl, ho5, hb4⟩
end Go.Proofs.Ytlgchkmgbjcboaa
