/- Are two lists alike: the laws' other helper. -/
import Derived.Test.YtfcnhdaefleelaaOwn
namespace Go.Proofs.Ytfcnhdaefleelaa
open Go.RowKit

set_option maxHeartbeats 1000000 in
theorem qx_any (v u : Value) (l m : List ByteArray) (w : World) (hr : Reads w v l) (hq : Reads w u m) (hlen : l.length ≤ 1048576) (hlen2 : m.length ≤ 1048576) :
    Calls Try.prog 9 #[v, u] w fun e w' => e = .returned (.bool (decide (l = m))) ∧ Below w.heap.size w w' := by
  by_cases hne : l.length = m.length
  · rcases hr with ⟨rfl, ao, cap, rfl, _⟩ | ⟨h0, b, off, cap, rfl, hb, hnc, hcm, hc⟩
    · have e : m = [] := List.length_eq_zero_iff.1 hne.symm
      subst e
      rcases hq with ⟨_, ao2, cap2, rfl, _⟩ | ⟨h0, _⟩
      · go_enter Try.func9, Try.ntmps9
        go_wp2
        refine wp_loop_rounds 1 ?_
        rw [rounds_succ]
        go_wp2
        go_ret
        exact ⟨rfl, Below.refl _ _⟩
      · simp at h0
    · rcases hq with ⟨rfl, _⟩ | ⟨_, b2, off2, cap2, rfl, hb2, _, _, hc2⟩
      · simp at hne; subst hne; simp at h0
      · rw [← hne] at hc2 ⊢
        have HNE : Hid (l.length = m.length) := hne
        clear hne hcm hnc
        go_enter Try.func9, Try.ntmps9
        go_wp2
        go_loopw [5] (fun i wr => ∃ k : Nat, k ≤ l.length ∧ i = .int .i64 k ∧ alikeTo l m k ∧ Below w.heap.size w wr) (fun i _ => l.length - (intOf i).toNat)
        case atStart => exact ⟨0, Nat.zero_le _, rfl, fun j hj => by omega, Below.refl _ _⟩
        case round =>
          obtain ⟨k, hk, rfl, hal, hB⟩ := hrel
          by_cases hlt : k < l.length
          · have hcell : wr.cell? ⟨b, off + k, none⟩ = some (.string (at_ l k)) := (hB.cell (p := ⟨b, off + k, none⟩) hb).trans (hc k hlt)
            have hcell2 : wr.cell? ⟨b2, off2 + k, none⟩ = some (.string (at_ m k)) := (hB.cell (p := ⟨b2, off2 + k, none⟩) hb2).trans (hc2 k hlt)
            have hlt' : (k : Int) < (l.length : Int) := by omega
            clear hc hc2
            go_wp2_with fail
            go_quiet (fail)
            go_wp2
            · go_ret
              exact ⟨ret_bool (alike_not (ne_of ‹_›)).symm, below_drewN hB _⟩
            · have he : at_ l k = at_ m k := eq_of ‹_›
              go_roundw
              case rel => exact ⟨k + 1, hlt, by go_num, fun j hj => by
                by_cases hj' : j = k
                · rw [hj']; exact he
                · exact hal j (by omega), below_drewN hB _⟩
              case measure => simp [intOf]; omega
          · have e : k = l.length := by omega
            subst e
            go_wp2
            go_ret
            exact ⟨ret_bool (by rw [eq_comm, decide_eq_true_iff]; exact alike_all HNE.out hal), hB⟩
  · have hf : ((l.length : Int) != (m.length : Int)) = true := by simp; omega
    have HF : Hid (decide (l = m) = false) := by
      show _ = _
      simp only [decide_eq_false_iff_not]; intro e; rw [e] at hne; exact hne rfl
    have hr' : ∃ ao cap, v = .slice ao l.length cap := by
      rcases hr with ⟨rfl, ao, cap, rfl, _⟩ | ⟨h0, b, off, cap, rfl, _⟩
      · exact ⟨_, _, rfl⟩
      · exact ⟨_, _, rfl⟩
    have hq' : ∃ ao cap, u = .slice ao m.length cap := by
      rcases hq with ⟨rfl, ao, cap, rfl, _⟩ | ⟨h0, b, off, cap, rfl, _⟩
      · exact ⟨_, _, rfl⟩
      · exact ⟨_, _, rfl⟩
    obtain ⟨ao, cap, rfl⟩ := hr'
    obtain ⟨ao2, cap2, rfl⟩ := hq'
    clear hr hq hne
    go_enter Try.func9, Try.ntmps9
    go_wp2
    go_ret
    exact ⟨ret_bool HF.out.symm, Below.refl _ _⟩

theorem qx_true (v u : Value) (l : List ByteArray) (w : World) (hr : Reads w v l) (hq : Reads w u l) (hlen : l.length ≤ 1048576) :
    Calls Try.prog 9 #[v, u] w fun e w' => e = .returned (.bool true) ∧ Below w.heap.size w w' :=
  (qx_any v u l l w hr hq hlen hlen).mono fun e w' ⟨h, hb⟩ => ⟨by rw [h]; simp, hb⟩
end Go.Proofs.Ytfcnhdaefleelaa
