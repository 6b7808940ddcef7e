/- Texts that are not too long: the program's textsOk. -/
import Derived.Test.YtfoflnolmlgnfaaDoorSlA
namespace Go.Proofs.YtfoflnolmlgnfaaDoor
open Go.RowKit

/-- the first k texts have at most 40 bytes each -/
def shortTo (l : List ByteArray) (k : Nat) : Bool := (l.take k).all fun s => decide (s.size ≤ 40)
def short (l : List ByteArray) : Bool := l.all fun s => decide (s.size ≤ 40)
theorem short_step {l : List ByteArray} {k : Nat} (h : k < l.length) (hs : shortTo l k = true) (hk : ((at_ l k).size : Int) ≤ 40) : shortTo l (k + 1) = true := by
  unfold shortTo at *
  rw [List.take_succ_eq_append_getElem h, List.all_append, hs, ← at_lt h]
  simp; omega
theorem short_not {l : List ByteArray} {k : Nat} (h : k < l.length) (hk : 40 < ((at_ l k).size : Int)) : short l = false := by
  unfold short
  rw [Bool.eq_false_iff]
  intro hh
  have := List.all_eq_true.1 hh l[k] (List.getElem_mem h)
  rw [← at_lt h] at this
  simp at this; omega
theorem short_end {l : List ByteArray} {k : Nat} (hk : k ≤ l.length) (h : ¬ k < l.length) (hs : shortTo l k = true) : short l = true := by
  have e : k = l.length := by omega
  subst e
  unfold shortTo at hs; rwa [List.take_length] at hs
set_option maxHeartbeats 400000 in
theorem textsOk_any (v : Value) (l : List ByteArray) (w : World) (hr : Reads w v l) (hlen : l.length ≤ 1048576) :
    Calls Tryd.prog 57 #[v] w fun e w' => e = .returned (.bool (short l)) ∧ w = w' := by
  rcases hr with ⟨rfl, ao, cap, rfl, _⟩ | ⟨h0, b, off, cap, rfl, hb, hnc, hcm, hc⟩
  · go_enter Tryd.func57, Tryd.ntmps57
    go_wp2
    refine wp_loop_rounds 1 ?_
    rw [rounds_succ]
    go_wp2
    go_ret
    exact ⟨rfl, rfl⟩
  · clear hcm hnc
    go_enter Tryd.func57, Tryd.ntmps57
    go_wp2
    go_loop [4, 7] (fun _ i => ∃ k : Nat, k ≤ l.length ∧ i = .int .i64 k ∧ shortTo l k = true) (fun _ i => l.length - (intOf i).toNat)
    case atStart => exact ⟨0, Nat.zero_le _, rfl, rfl⟩
    case round =>
      obtain ⟨k, hk, rfl, hsh⟩ := hrel
      have HS : Hid (shortTo l k = true) := hsh
      clear hsh
      by_cases hlt : k < l.length
      · have hcell := hc k hlt
        clear hc
        go_wp2
        · go_ret
          exact ⟨ret_bool (short_not hlt ‹_›).symm, rfl⟩
        · go_round
          case rel => exact ⟨k + 1, hlt, by go_num, short_step hlt HS.out ‹_›⟩
          case measure => simp [intOf]; omega
      · go_wp2
        go_ret
        exact ⟨ret_bool (short_end hk hlt HS.out).symm, rfl⟩
theorem reads_shape {w : World} {v : Value} {l : List ByteArray} (h : Reads w v l) : ∃ ao cap, v = .slice ao l.length cap := by
  rcases h with ⟨rfl, ao, cap, rfl, _⟩ | ⟨h0, b, off, cap, rfl, _⟩
  · exact ⟨_, _, rfl⟩
  · exact ⟨_, _, rfl⟩
end Go.Proofs.YtfoflnolmlgnfaaDoor
