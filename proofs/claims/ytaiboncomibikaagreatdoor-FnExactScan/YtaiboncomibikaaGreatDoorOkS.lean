/- Are texts a list that is ok, are they a set: the model's and the program's. -/
import Derived.Test.YtaiboncomibikaaGreatDoorSlA
namespace Go.Proofs.YtaiboncomibikaaGreatDoor
open Go.RowKit

/-- the first k texts have at most 40 bytes each -/
def shortTo (l : List ByteArray) (k : Nat) : Bool := (l.take k).all fun s => decide (s.size ≤ 40)
def short (l : List ByteArray) : Bool := l.all fun s => decide (s.size ≤ 40)
def okB (l : List ByteArray) : Bool := decide (l.length ≤ 16) && short l
theorem short_step {l : List ByteArray} {k : Nat} (h : k < l.length) (hs : shortTo l k = true) (hk : ((at_ l k).size : Int) ≤ 40) : shortTo l (k + 1) = true := by
  unfold shortTo at *
  rw [List.take_succ_eq_append_getElem h, List.all_append, hs, ← at_lt h]
  simp; omega
theorem short_not {l : List ByteArray} {k : Nat} (h : k < l.length) (hk : 40 < ((at_ l k).size : Int)) : short l = false := by
  unfold short
  rw [Bool.eq_false_iff]
  intro hh
  have := List.all_eq_true.1 hh l[k] (List.getElem_mem h)
  rw [← at_lt h] at this
  simp at this; omega
theorem short_end {l : List ByteArray} {k : Nat} (hk : k ≤ l.length) (h : ¬ k < l.length) (hs : shortTo l k = true) : short l = true := by
  have e : k = l.length := by omega
  subst e
  unfold shortTo at hs; rwa [List.take_length] at hs
theorem okB_not {l : List ByteArray} (h : short l = false) : okB l = false := by unfold okB; rw [h]; simp

set_option maxHeartbeats 400000 in
theorem l2Texts_any (v : Value) (l : List ByteArray) (w : World) (hr : Reads w v l) (hlen : l.length ≤ 1048576) :
    Calls Tryz.prog 37 #[v] w fun e w' => e = .returned (.bool (okB l)) ∧ w = w' := by
  rcases hr with ⟨rfl, ao, cap, rfl, _⟩ | ⟨h0, b, off, cap, rfl, hb, hnc, hcm, hc⟩
  · go_enter Tryz.func37, Tryz.ntmps37
    go_wp2
    refine wp_loop_rounds 1 ?_
    rw [rounds_succ]
    go_wp2
    go_ret
    exact ⟨rfl, rfl⟩
  · clear hcm hnc
    go_enter Tryz.func37, Tryz.ntmps37
    go_wp2
    go_loop [3] (fun i => ∃ k : Nat, k ≤ l.length ∧ i = .int .i64 k ∧ shortTo l k = true) (fun i => l.length - (intOf i).toNat)
    case atStart => exact ⟨0, Nat.zero_le _, rfl, rfl⟩
    case round =>
      obtain ⟨k, hk, rfl, hsh⟩ := hrel
      have HS : Hid (shortTo l k = true) := hsh
      clear hsh
      by_cases hlt : k < l.length
      · have hcell := hc k hlt
        clear hc
        go_wp2
        · go_ret
          exact ⟨ret_bool (okB_not (short_not hlt ‹_›)).symm, rfl⟩
        · go_round
          case rel => exact ⟨k + 1, hlt, by go_num, short_step hlt HS.out ‹_›⟩
          case measure => simp [intOf]; omega
      · go_wp2
        go_ret
        exact ⟨ret_bool (by unfold okB; rw [short_end hk hlt HS.out, Bool.and_true]; rw [Bool.eq_iff_iff]; simp; omega), rfl⟩

set_option maxHeartbeats 400000 in
theorem textsOk_any (v : Value) (l : List ByteArray) (w : World) (hr : Reads w v l) (hlen : l.length ≤ 1048576) :
    Calls Tryz.prog 102 #[v] w fun e w' => e = .returned (.bool (short l)) ∧ w = w' := by
  rcases hr with ⟨rfl, ao, cap, rfl, _⟩ | ⟨h0, b, off, cap, rfl, hb, hnc, hcm, hc⟩
  · go_enter Tryz.func102, Tryz.ntmps102
    go_wp2
    refine wp_loop_rounds 1 ?_
    rw [rounds_succ]
    go_wp2
    go_ret
    exact ⟨rfl, rfl⟩
  · clear hcm hnc
    go_enter Tryz.func102, Tryz.ntmps102
    go_wp2
    go_loop [4, 7] (fun _ i => ∃ k : Nat, k ≤ l.length ∧ i = .int .i64 k ∧ shortTo l k = true) (fun _ i => l.length - (intOf i).toNat)
    case atStart => exact ⟨0, Nat.zero_le _, rfl, rfl⟩
    case round =>
      obtain ⟨k, hk, rfl, hsh⟩ := hrel
      have HS : Hid (shortTo l k = true) := hsh
      clear hsh
      by_cases hlt : k < l.length
      · have hcell := hc k hlt
        clear hc
        go_wp2
        · go_ret
          exact ⟨ret_bool (short_not hlt ‹_›).symm, rfl⟩
        · go_round
          case rel => exact ⟨k + 1, hlt, by go_num, short_step hlt HS.out ‹_›⟩
          case measure => simp [intOf]; omega
      · go_wp2
        go_ret
        exact ⟨ret_bool (short_end hk hlt HS.out).symm, rfl⟩

theorem reads_shape {w : World} {v : Value} {l : List ByteArray} (h : Reads w v l) : ∃ ao cap, v = .slice ao l.length cap := by
  rcases h with ⟨rfl, ao, cap, rfl, _⟩ | ⟨h0, b, off, cap, rfl, _⟩
  · exact ⟨_, _, rfl⟩
  · exact ⟨_, _, rfl⟩

set_option maxHeartbeats 400000 in
theorem listOk_any (v : Value) (l : List ByteArray) (w : World) (hr : Reads w v l) (hlen : l.length ≤ 1048576) :
    Calls Tryz.prog 101 #[v] w fun e w' => e = .returned (.bool (okB l)) ∧ w = w' := by
  obtain ⟨ao, cap, rfl⟩ := reads_shape hr
  by_cases hn : (l.length : Int) ≤ 16
  · go_enter Tryz.func101, Tryz.ntmps101
    go_wp2_with (go_at_call 102; refine (textsOk_any _ l _ hr hlen).mono ?_; rintro e w' ⟨rfl, rfl⟩)
    go_ret
    exact ⟨ret_bool (by unfold okB; simp; omega), rfl⟩
  · have hn' : decide ((l.length : Int) ≤ 16) = false := by simpa using hn
    go_enter Tryz.func101, Tryz.ntmps101
    go_wp2_with fail
    go_ret
    exact ⟨ret_bool (by unfold okB; simp; omega), rfl⟩

/-- each of the first k texts is above the one ahead of it -/
def ascTo (l : List ByteArray) (k : Nat) : Prop := ∀ j, 1 ≤ j → j < k → Op.bytesLess (at_ l (j - 1)).toList (at_ l j).toList = true
def ascB (l : List ByteArray) : Bool := (List.range l.length).all fun j => decide (j = 0) || Op.bytesLess (at_ l (j - 1)).toList (at_ l j).toList
theorem asc_end {l : List ByteArray} {k : Nat} (h : l.length ≤ k) (ha : ascTo l k) : ascB l = true := by
  unfold ascB
  rw [List.all_eq_true]
  intro j hj
  rw [List.mem_range] at hj
  by_cases h0 : j = 0
  · simp [h0]
  · simp [ha j (by omega) (by omega)]
theorem asc_not {l : List ByteArray} {k : Nat} (h1 : 1 ≤ k) (h : k < l.length) (ha : Op.bytesLess (at_ l (k - 1)).toList (at_ l k).toList = false) : ascB l = false := by
  unfold ascB
  rw [Bool.eq_false_iff]
  intro hh
  have := List.all_eq_true.1 hh k (List.mem_range.2 h)
  rw [ha] at this
  simp at this; omega
theorem asc_step {l : List ByteArray} {k : Nat} (h : ascTo l k) (ha : Op.bytesLess (at_ l (k - 1)).toList (at_ l k).toList = true) : ascTo l (k + 1) := by
  intro j h1 h2
  by_cases e : j = k
  · rw [e]; exact ha
  · exact h j h1 (by omega)
/-- what is left of a list, what is taken -/
def popL (l : List ByteArray) (front : Bool) : List ByteArray := if front = true then l.tail else l.dropLast
def popT (l : List ByteArray) (front : Bool) : ByteArray := if front = true then at_ l 0 else at_ l (l.length - 1)
def setB (l : List ByteArray) : Bool := ascB l && okB l
end Go.Proofs.YtaiboncomibikaaGreatDoor
