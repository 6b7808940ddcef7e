/- SetOk, the model's and the program's: one bool. -/
import Derived.Test.YtaiboncomibikaaGreatDoorOkS
namespace Go.Proofs.YtaiboncomibikaaGreatDoor
open Go.RowKit

theorem less_of {a b : ByteArray} (h : (!Op.bytesLess a.toList b.toList) = false) : Op.bytesLess a.toList b.toList = true := by simpa using h
theorem less_not {a b : ByteArray} (h : (!Op.bytesLess a.toList b.toList) = true) : Op.bytesLess a.toList b.toList = false := by simpa using h

set_option maxHeartbeats 400000 in
theorem specSetOk_any (v : Value) (l : List ByteArray) (w : World) (hr : Reads w v l) (hlen : l.length ≤ 1048576) :
    Calls Tryz.prog 38 #[v] w fun e w' => e = .returned (.bool (setB l)) ∧ Below w.heap.size w w' := by
  have hr0 := hr
  rcases hr with ⟨rfl, ao, cap, rfl, _⟩ | ⟨h0, b, off, cap, rfl, hb, hnc, hcm, hc⟩
  · go_enter Tryz.func38, Tryz.ntmps38
    go_wp2_with fail
    refine wp_loop_rounds 1 ?_
    rw [rounds_succ]
    go_wp2_with (go_at_call 37; refine (l2Texts_any _ [] _ hr0 hlen).mono ?_; rintro e w' ⟨rfl, rfl⟩)
    go_ret
    exact ⟨rfl, Below.refl _ _⟩
  · clear hcm hnc
    go_enter Tryz.func38, Tryz.ntmps38
    go_wp2_with fail
    go_loopw [3] (fun i wr => ∃ k : Nat, 1 ≤ k ∧ (k ≤ l.length ∨ k = 1) ∧ i = .int .i64 k ∧ ascTo l k ∧ Below w.heap.size w wr) (fun i _ => l.length - (intOf i).toNat)
    case atStart => exact ⟨1, Nat.le_refl _, .inr rfl, rfl, fun j h1 h2 => by omega, Below.refl _ _⟩
    case round =>
      obtain ⟨k, hk1, hk, rfl, hasc, hB⟩ := hrel
      by_cases hlt : k < l.length
      · have hcell : wr.cell? ⟨b, off + k, none⟩ = some (.string (at_ l k)) := (hB.cell (p := ⟨b, off + k, none⟩) hb).trans (hc k hlt)
        obtain ⟨j, rfl⟩ : ∃ j, k = j + 1 := ⟨k - 1, by omega⟩
        have hcell2 : wr.cell? ⟨b, off + j, none⟩ = some (.string (at_ l j)) := (hB.cell (p := ⟨b, off + j, none⟩) hb).trans (hc j (by omega))
        have hlt' : (j : Int) + 1 < (l.length : Int) := by omega
        have hlt2 : (j : Int) < (l.length : Int) := by omega
        clear hc
        go_wp2_with fail
        go_quiet (fail)
        go_wp2_with fail
        · go_ret
          exact ⟨ret_bool (by unfold setB; rw [asc_not hk1 hlt (less_not ‹_›)]; rfl), below_drewN hB _⟩
        · go_roundw
          case rel => exact ⟨j + 1 + 1, by omega, .inl hlt, by go_num, asc_step hasc (less_of ‹_›), below_drewN hB _⟩
          case measure => simp [intOf]; omega
      · have hrr := reads_kept hr0 hB
        clear hc
        go_wp2_with (go_at_call 37; refine (l2Texts_any _ l _ hrr hlen).mono ?_; rintro e w' ⟨rfl, rfl⟩)
        go_ret
        exact ⟨ret_bool (by unfold setB; rw [asc_end (by omega) hasc]; rfl), hB⟩

set_option maxHeartbeats 400000 in
theorem implSetOk_any (v : Value) (l : List ByteArray) (w : World) (hr : Reads w v l) (hlen : l.length ≤ 1048576) :
    Calls Tryz.prog 105 #[v] w fun e w' => e = .returned (.bool (setB l)) ∧ Below w.heap.size w w' := by
  have hr0 := hr
  cases hok : okB l with
  | false =>
    obtain ⟨ao, cap, rfl⟩ := reads_shape hr
    go_enter Tryz.func105, Tryz.ntmps105
    go_wp2_with (go_at_call 101; refine (listOk_any _ l _ hr0 hlen).mono ?_; rintro e w' ⟨rfl, rfl⟩)
    go_ret
    exact ⟨ret_bool (by unfold setB; rw [hok, Bool.and_false]), Below.refl _ _⟩
  | true =>
    rcases hr with ⟨rfl, ao, cap, rfl, _⟩ | ⟨h0, b, off, cap, rfl, hb, hnc, hcm, hc⟩
    · go_enter Tryz.func105, Tryz.ntmps105
      go_wp2_with (go_at_call 101; refine (listOk_any _ [] _ hr0 hlen).mono ?_; rintro e w' ⟨rfl, rfl⟩)
      refine wp_loop_rounds 1 ?_
      rw [rounds_succ]
      go_wp2_with fail
      go_ret
      exact ⟨rfl, Below.refl _ _⟩
    · clear hcm hnc
      go_enter Tryz.func105, Tryz.ntmps105
      go_wp2_with (go_at_call 101; refine (listOk_any _ l _ hr0 hlen).mono ?_; rintro e w' ⟨rfl, rfl⟩)
      have HOK : Hid (okB l = true) := hok
      clear hok
      go_loopw [3] (fun i wr => ∃ k : Nat, 1 ≤ k ∧ (k ≤ l.length ∨ k = 1) ∧ i = .int .i64 k ∧ ascTo l k ∧ Below w.heap.size w wr) (fun i _ => l.length - (intOf i).toNat)
      case atStart => exact ⟨1, Nat.le_refl _, .inr rfl, rfl, fun j h1 h2 => by omega, Below.refl _ _⟩
      case round =>
        obtain ⟨k, hk1, hk, rfl, hasc, hB⟩ := hrel
        by_cases hlt : k < l.length
        · have hcell : wr.cell? ⟨b, off + k, none⟩ = some (.string (at_ l k)) := (hB.cell (p := ⟨b, off + k, none⟩) hb).trans (hc k hlt)
          obtain ⟨j, rfl⟩ : ∃ j, k = j + 1 := ⟨k - 1, by omega⟩
          have hcell2 : wr.cell? ⟨b, off + j, none⟩ = some (.string (at_ l j)) := (hB.cell (p := ⟨b, off + j, none⟩) hb).trans (hc j (by omega))
          have hlt' : (j : Int) + 1 < (l.length : Int) := by omega
          have hlt2 : (j : Int) < (l.length : Int) := by omega
          clear hc
          go_wp2_with fail
          go_quiet (fail)
          go_wp2_with fail
          · go_ret
            exact ⟨ret_bool (by unfold setB; rw [asc_not hk1 hlt (less_not ‹_›)]; rfl), below_drewN hB _⟩
          · go_roundw
            case rel => exact ⟨j + 1 + 1, by omega, .inl hlt, by go_num, asc_step hasc (less_of ‹_›), below_drewN hB _⟩
            case measure => simp [intOf]; omega
        · clear hc
          go_wp2_with fail
          go_ret
          exact ⟨ret_bool (by unfold setB; rw [asc_end (by omega) hasc, HOK.out]; rfl), hB⟩
end Go.Proofs.YtaiboncomibikaaGreatDoor
