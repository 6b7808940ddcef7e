/- FieldsGet: the program's and the model's. -/
import Derived.Test.YtfnbjjcelncliaaPrI
namespace Go.Proofs.Ytfnbjjcelncliaa
open Go.RowKit

def prGetB (l : List (ByteArray × ByteArray)) (s : ByteArray) : Bool := decide (0 ≤ prFindI l s)
def prGetS (l : List (ByteArray × ByteArray)) (s : ByteArray) : ByteArray := if prGetB l s = true then (prAt l (prFindI l s).toNat).2 else ByteArray.empty

set_option maxHeartbeats 4000000 in
theorem implFieldsGet_any (v : Value) (l : List (ByteArray × ByteArray)) (s : ByteArray) (w : World) (hr : PrReads w v l) (hlen : l.length ≤ 1048576) :
    Calls Try.prog 20 #[v, .string s] w fun e w' => e = .returned (.tuple #[.string (prGetS l s), .bool (prGetB l s)]) ∧ Below w.heap.size w w' := by
  obtain ⟨ao, cap, rfl⟩ := readsR_shape hr
  go_enter Try.func20, Try.ntmps20
  go_wp2_with fail
  refine (prTable_any _ _ _ _).mono ?_
  rintro e w1 ⟨rfl, hb1⟩
  have hr1 := readsR_kept hr hb1
  go_wp2_with fail
  refine (prFind_any _ l s _ hr1 hlen).mono ?_
  rintro e w2 ⟨rfl, hb2⟩
  have hB2 := hb1.trans (hb2.mono hb1.size)
  clear hb1 hb2 hr1
  cases hg : decide (0 ≤ prFindI l s) with
  | false =>
    have HG : Hid (prGetB l s = false) := hg
    have HS : Hid (prGetS l s = ByteArray.empty) := by show _ = _; unfold prGetS; rw [HG.out]; rfl
    clear hg
    go_wp2_with fail
    go_ret2
    exact ⟨by rw [HS.out, HG.out]; rfl, hB2⟩
  | true =>
    have HG : Hid (prGetB l s = true) := hg
    have h0 : 0 ≤ prFindI l s := by simpa using hg
    have hbd : prFindI l s < l.length := by
      have h3 := h0
      unfold prFindI at h3 ⊢
      split at h3 <;> split
      · rcases prPlc_bd l s with h | h
        · exact h.2
        · omega
      · contradiction
      · omega
      · omega
    obtain ⟨k, hk⟩ := Int.eq_ofNat_of_zero_le h0
    have hlt : k < l.length := by omega
    have HS : Hid (prGetS l s = (prAt l k).2) := by show _ = _; unfold prGetS; rw [HG.out, hk]; rfl
    obtain ⟨b, off, rfl, hb, _, _, hc⟩ := pr_some hr (by omega)
    have hc1 := (pr_cell_kept (pr_cells hc hlt) hB2 hb).2
    have hk1 : (k : Int) < (l.length : Int) := by omega
    rw [hk]
    clear hg h0 hbd hk hc
    go_wp2_with fail
    go_ret2
    exact ⟨by rw [HS.out, HG.out]; rfl, hB2⟩

set_option maxHeartbeats 4000000 in
theorem specFieldsGet_any (v : Value) (l : List (ByteArray × ByteArray)) (s : ByteArray) (w : World) (hr : PrReads w v l) (hlen : l.length ≤ 1048576) :
    Calls Try.prog 24 #[v, .string s] w fun e w' => e = .returned (.tuple #[.string (prGetS l s), .bool (prGetB l s)]) ∧ Below w.heap.size w w' := by
  obtain ⟨ao, cap, rfl⟩ := readsR_shape hr
  go_enter Try.func24, Try.ntmps24
  go_wp2_with fail
  refine (l3At_any _ l s _ hr hlen).mono ?_
  rintro e w1 ⟨rfl, hb1⟩
  have hr1 := readsR_kept hr hb1
  go_wp2_with fail
  refine (specFieldsOk_any _ l _ hr1 hlen).mono ?_
  rintro e w2 ⟨rfl, hb2⟩
  have hB2 := hb1.trans (hb2.mono hb1.size)
  clear hb1 hb2 hr1
  cases hok : prOkB l with
  | false =>
    have HF : Hid (prFindI l s = -1) := by show _ = _; unfold prFindI; rw [hok]; rfl
    have HG : Hid (prGetB l s = false) := by show _ = _; unfold prGetB; rw [HF.out]; rfl
    have HS : Hid (prGetS l s = ByteArray.empty) := by show _ = _; unfold prGetS; rw [HG.out]; rfl
    clear hok
    go_wp2_with fail
    go_ret2
    exact ⟨by rw [HS.out, HG.out]; rfl, hB2⟩
  | true =>
    have hpp := prPlc_pos (s := s) hok
    have HF : Hid (prFindI l s = prPlc l s) := by show _ = _; unfold prFindI; rw [hok]; rfl
    cases ht : prThere l s with
    | false =>
      have HG : Hid (prGetB l s = false) := by show _ = _; unfold prGetB; rw [HF.out, hpp.2 ht]; rfl
      have HS : Hid (prGetS l s = ByteArray.empty) := by show _ = _; unfold prGetS; rw [HG.out]; rfl
      clear hok hpp
      go_wp2_with fail
      go_ret2
      exact ⟨by rw [HS.out, HG.out]; rfl, hB2⟩
    | true =>
      have hlt : prPos l s < l.length := by unfold prThere at ht; simp only [Bool.and_eq_true, decide_eq_true_eq] at ht; exact ht.1
      have HG : Hid (prGetB l s = true) := by show _ = _; unfold prGetB; rw [HF.out, hpp.1 ht]; simp
      have HS : Hid (prGetS l s = (prAt l (prPos l s)).2) := by show _ = _; unfold prGetS; rw [HG.out, HF.out, hpp.1 ht]; simp
      obtain ⟨b, off, rfl, hb, _, _, hc⟩ := pr_some hr (by omega)
      have hc1 := (pr_cell_kept (pr_cells hc hlt) hB2 hb).2
      have hk1 : (prPos l s : Int) < (l.length : Int) := by omega
      clear hok hpp hc ht
      generalize prPos l s = k at *
      go_wp2_with fail
      go_ret2
      exact ⟨by rw [HS.out, HG.out]; rfl, hB2⟩
end Go.Proofs.Ytfnbjjcelncliaa
