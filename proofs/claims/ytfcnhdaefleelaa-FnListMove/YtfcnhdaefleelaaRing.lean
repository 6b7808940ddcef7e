/- A ring in memory: sixteen slots, its first place, its size. -/
import Derived.Test.YtfcnhdaefleelaaOkS
import Derived.Deep.RegionWith
import Derived.BigRegion
import Derived.Laws.CopyOwn
namespace Go.Proofs.Ytfcnhdaefleelaa
open Go.RowKit

def ringArr (sl : List ByteArray) (f n : Nat) : Array Value := (sl.map Value.string ++ [Value.int .i64 (f : Int), Value.int .i64 (n : Int)]).toArray
def RingAt (w : World) (b : Nat) (sl : List ByteArray) (f n : Nat) : Prop :=
  sl.length = 16 ∧ f < 16 ∧ n ≤ 16 ∧ w.heap[b]? = some (.cells (ringArr sl f n) 67 (0, 0))
def ringL (sl : List ByteArray) (f n : Nat) : List ByteArray := (List.range n).map fun i => at_ sl ((f + i) % 16)

theorem ring_slot {w : World} {b f n : Nat} {sl : List ByteArray} (h : RingAt w b sl f n) {i : Nat} (hi : i < 16) : w.cell? ⟨b, i, none⟩ = some (.string (at_ sl i)) := by
  rw [cell_of_row w b i _ _ _ h.2.2.2]
  unfold ringArr
  rw [List.getElem?_toArray, List.getElem?_append_left (by simp [h.1, hi]), List.getElem?_map, List.getElem?_eq_getElem (by rw [h.1]; exact hi), at_lt (by rw [h.1]; exact hi)]; rfl
theorem ring_first {w : World} {b f n : Nat} {sl : List ByteArray} (h : RingAt w b sl f n) : w.cell? ⟨b, 16, none⟩ = some (.int .i64 (f : Int)) := by
  rw [cell_of_row w b 16 _ _ _ h.2.2.2]
  unfold ringArr
  rw [List.getElem?_toArray, List.getElem?_append_right (by simp [h.1])]; simp [h.1]
theorem ring_size {w : World} {b f n : Nat} {sl : List ByteArray} (h : RingAt w b sl f n) : w.cell? ⟨b, 17, none⟩ = some (.int .i64 (n : Int)) := by
  rw [cell_of_row w b 17 _ _ _ h.2.2.2]
  unfold ringArr
  rw [List.getElem?_toArray, List.getElem?_append_right (by simp [h.1])]; simp [h.1]
theorem ring_frozen {w : World} {b f n : Nat} {sl : List ByteArray} (h : RingAt w b sl f n) (i : Nat) : w.frozen? ⟨b, i, none⟩ = false := frozen_of_row w b i _ _ h.2.2.2
theorem ring_lt {w : World} {b f n : Nat} {sl : List ByteArray} (h : RingAt w b sl f n) : b < w.heap.size := (Array.getElem?_eq_some_iff.1 h.2.2.2).1

theorem ringArr_set {sl : List ByteArray} {f n i : Nat} {s : ByteArray} (hl : sl.length = 16) (hi : i < 16) : (ringArr sl f n).setIfInBounds i (.string s) = ringArr (sl.set i s) f n := by
  unfold ringArr
  apply Array.toList_inj.1
  rw [Array.toList_setIfInBounds]
  rw [List.set_append_left _ _ (by simp [hl, hi]), List.map_set]
theorem ringArr_first {sl : List ByteArray} {f n k : Nat} (hl : sl.length = 16) : (ringArr sl f n).setIfInBounds 16 (.int .i64 (k : Int)) = ringArr sl k n := by
  unfold ringArr
  apply Array.toList_inj.1
  rw [Array.toList_setIfInBounds]
  rw [List.set_append_right _ _ (by simp [hl])]; simp [hl]
theorem ringArr_size {sl : List ByteArray} {f n k : Nat} (hl : sl.length = 16) : (ringArr sl f n).setIfInBounds 17 (.int .i64 (k : Int)) = ringArr sl f k := by
  unfold ringArr
  apply Array.toList_inj.1
  rw [Array.toList_setIfInBounds]
  rw [List.set_append_right _ _ (by simp [hl])]; simp [hl]

theorem ring_put {w : World} {b f n i : Nat} {sl : List ByteArray} (h : RingAt w b sl f n) (hi : i < 16) (s : ByteArray) : RingAt (w.setCell ⟨b, i, none⟩ (.string s)) b (sl.set i s) f n :=
  ⟨by simp [h.1], h.2.1, h.2.2.1, by rw [heap_setCell_same w b i _ _ _ h.2.2.2, ringArr_set h.1 hi]⟩
theorem ring_setFirst {w : World} {b f n k : Nat} {sl : List ByteArray} (h : RingAt w b sl f n) (hk : k < 16) : RingAt (w.setCell ⟨b, 16, none⟩ (.int .i64 (k : Int))) b sl k n :=
  ⟨h.1, hk, h.2.2.1, by rw [heap_setCell_same w b 16 _ _ _ h.2.2.2, ringArr_first h.1]⟩
theorem ring_setSize {w : World} {b f n k : Nat} {sl : List ByteArray} (h : RingAt w b sl f n) (hk : k ≤ 16) : RingAt (w.setCell ⟨b, 17, none⟩ (.int .i64 (k : Int))) b sl f k :=
  ⟨h.1, h.2.1, hk, by rw [heap_setCell_same w b 17 _ _ _ h.2.2.2, ringArr_size h.1]⟩
theorem ring_kept {w w' : World} {b f n : Nat} {sl : List ByteArray} (h : RingAt w b sl f n) (hb : Below w.heap.size w w') : RingAt w' b sl f n :=
  ⟨h.1, h.2.1, h.2.2.1, (hb.block b (ring_lt h)).trans h.2.2.2⟩
theorem ring_drewN {w : World} {b f n : Nat} {sl : List ByteArray} (h : RingAt w b sl f n) (k : Nat) : RingAt (w.drewN k) b sl f n := h

set_option maxHeartbeats 400000 in
theorem get_any (b f n : Nat) (sl : List ByteArray) (i : Int) (w : World) (h : RingAt w b sl f n) (h0 : 0 ≤ i) (h1 : i ≤ 1000) :
    Calls Try.prog 59 #[.pointer (some ⟨b, 0, none⟩), .int .i64 i] w fun e w' => e = .returned (.string (at_ sl (i.toNat % 16))) ∧ w' = w := by
  obtain ⟨k, rfl⟩ := Int.eq_ofNat_of_zero_le h0
  have hc := ring_slot h (i := k % 16) (by omega)
  go_enter Try.func59, Try.ntmps59
  go_wp2
  go_ret
  exact ⟨by simp, rfl⟩

set_option maxHeartbeats 400000 in
theorem put_any (b f n : Nat) (sl : List ByteArray) (i : Int) (s : ByteArray) (w : World) (h : RingAt w b sl f n) (h0 : 0 ≤ i) (h1 : i ≤ 1000) :
    Calls Try.prog 61 #[.pointer (some ⟨b, 0, none⟩), .int .i64 i, .string s] w fun e w' => e = .returned (.tuple #[]) ∧ w' = w.setCell ⟨b, i.toNat % 16, none⟩ (.string s) := by
  obtain ⟨k, rfl⟩ := Int.eq_ofNat_of_zero_le h0
  have hc := ring_slot h (i := k % 16) (by omega)
  have hf := ring_frozen h (k % 16)
  go_enter Try.func61, Try.ntmps61
  go_wp2
  go_end0
  exact ⟨rfl, rfl⟩

theorem wrap_small {a : Int} (h0 : -1000000 ≤ a) (h1 : a ≤ 1000000) : IntKind.i64.wrap a = a := by
  unfold IntKind.wrap; simp [IntKind.signed, IntKind.bits]; omega

theorem grown_setCell (w : World) (b i : Nat) (v : Value) : w.grownBy (w.setCell ⟨b, i, none⟩ v) (some b) :=
  ⟨rfl, rfl, rfl, by simp, fun k _ hk => heap_setCell_other w ⟨b, i, none⟩ k v (fun e => hk (by simp [e]))⟩
theorem grown_trans {a b c : World} {r : Option Nat} (h : a.grownBy b r) (k : b.grownBy c r) : a.grownBy c r :=
  ⟨k.os.trans h.os, k.tape.trans h.tape, k.output.trans h.output, Nat.le_trans h.size k.size, fun i hi hr => (k.block i (Nat.lt_of_lt_of_le hi h.size) hr).trans (h.block i hi hr)⟩
theorem grown_drew {a b : World} {r : Option Nat} (h : a.grownBy b r) : a.grownBy b.drew r := ⟨h.os, h.tape, h.output, h.size, h.block⟩
theorem grown_drewN {a b : World} {r : Option Nat} (h : a.grownBy b r) (n : Nat) : a.grownBy (b.drewN n) r := ⟨h.os, h.tape, h.output, h.size, h.block⟩
theorem grown_of_below {a b : World} {r : Option Nat} (h : Below a.heap.size a b) : a.grownBy b r := ⟨h.os, h.tape, h.output, h.size, fun i hi _ => h.block i hi⟩

set_option maxHeartbeats 1000000 in
theorem pushBack_any (b f n : Nat) (sl : List ByteArray) (s : ByteArray) (w : World) (h : RingAt w b sl f n) (hn : n < 16) :
    Calls Try.prog 49 #[.pointer (some ⟨b, 0, none⟩), .bool false, .string s] w fun e w' => e = .returned (.tuple #[]) ∧ RingAt w' b (sl.set ((f + n) % 16) s) f (n + 1) ∧ w.grownBy w' (some b) := by
  have hc := ring_size h
  have hf := ring_frozen h 17
  have hlt := h.2.1
  have h1 := ring_setSize h (k := n + 1) hn
  have hc1 := ring_first h1
  have hc2 := ring_size h1
  have ec : (((n + 1 : Nat) : Int)) = (n : Int) + 1 := by omega
  rw [ec] at h1 hc1 hc2
  clear ec
  go_enter Try.func49, Try.ntmps49
  go_wp2_with fail
  have hg1 := grown_setCell w b 17 (.int .i64 ((n : Int) + 1))
  generalize w.setCell ⟨b, 17, none⟩ (.int .i64 ((n : Int) + 1)) = w1 at *
  clear h hc hf
  have HWR : Hid (IntKind.i64.wrap (IntKind.i64.wrap ((f : Int) + ((n : Int) + 1)) - 1) = (f : Int) + (n : Int)) := by
    show _ = _
    rw [wrap_small (a := (f : Int) + ((n : Int) + 1)) (by omega) (by omega), wrap_small (by omega) (by omega)]; omega
  go_region_with (go_at_call 61; rw [HWR.out]; refine (put_any b f (n + 1) sl _ s _ (by exact h1) (by omega) (by omega)).mono ?_; rintro e w' ⟨rfl, rfl⟩)
  all_goals
    go_end0
    have e : ((f : Int) + (n : Int)).toNat = f + n := by omega
    rw [e]
    exact ⟨rfl, ring_put h1 (Nat.mod_lt _ (by omega)) s, grown_drew (grown_trans hg1 (grown_setCell w1 b _ _))⟩

set_option maxHeartbeats 1000000 in
theorem pushFront_any (b f n : Nat) (sl : List ByteArray) (s : ByteArray) (w : World) (h : RingAt w b sl f n) (hn : n < 16) :
    Calls Try.prog 49 #[.pointer (some ⟨b, 0, none⟩), .bool true, .string s] w fun e w' => e = .returned (.tuple #[]) ∧ RingAt w' b (sl.set ((f + 15) % 16) s) ((f + 15) % 16) (n + 1) ∧ w.grownBy w' (some b) := by
  have hc := ring_size h
  have hf := ring_frozen h 17
  have hlt := h.2.1
  have h1 := ring_setSize h (k := n + 1) hn
  have hc1 := ring_first h1
  have ec : (((n + 1 : Nat) : Int)) = (n : Int) + 1 := by omega
  rw [ec] at h1 hc1
  clear ec
  have hf1 := ring_frozen h1 16
  have h2 := ring_setFirst h1 (k := (f + 15) % 16) (Nat.mod_lt _ (by omega))
  have hc2 := ring_first h2
  have hg1 := grown_trans (grown_setCell w b 17 (.int .i64 ((n : Int) + 1))) (grown_setCell _ b 16 (.int .i64 ((((f + 15) % 16 : Nat)) : Int)))
  have ec : ((((f + 15) % 16 : Nat)) : Int) = ((f : Int) + 16 - 1) % 16 := by omega
  rw [ec] at h2 hc2 hg1
  have HEC : Hid (((((f + 15) % 16 : Nat)) : Int) = ((f : Int) + 16 - 1) % 16) := ec
  clear ec
  go_enter Try.func49, Try.ntmps49
  go_wp2_with fail
  generalize (w.setCell ⟨b, 17, none⟩ (.int .i64 ((n : Int) + 1))).setCell ⟨b, 16, none⟩ (.int .i64 (((f : Int) + 16 - 1) % 16)) = w1 at *
  clear h hc hf h1 hc1 hf1
  go_region_with (go_at_call 61; refine (put_any b ((f + 15) % 16) (n + 1) sl _ s _ (by exact h2) (by omega) (by omega)).mono ?_; rintro e w' ⟨rfl, rfl⟩)
  all_goals
    go_wp2_with fail
    refine bodyPost_ret (results_none rfl _ _ _) rfl ?_
    have e : (((f : Int) + 16 - 1) % 16).toNat % 16 = (f + 15) % 16 := by omega
    rw [e]
    exact ⟨rfl, ring_put h2 (Nat.mod_lt _ (by omega)) s, grown_drew (grown_trans hg1 (grown_setCell w1 b _ _))⟩

def popAt (f n : Nat) (front : Bool) : Nat := if front = true then f else (f + n - 1) % 16
def popF (f : Nat) (front : Bool) : Nat := if front = true then (f + 1) % 16 else f
theorem ret_str {a b : ByteArray} (h : a = b) : Ending.returned (.string a) = .returned (.string b) := by rw [h]

set_option maxHeartbeats 1000000 in
theorem pop_any (b f n : Nat) (sl : List ByteArray) (front : Bool) (w : World) (h : RingAt w b sl f n) (hn : 0 < n) :
    Calls Try.prog 47 #[.pointer (some ⟨b, 0, none⟩), .bool front] w fun e w' => e = .returned (.string (at_ sl (popAt f n front))) ∧ RingAt w' b sl (popF f front) (n - 1) ∧ w.grownBy w' (some b) := by
  obtain ⟨m, rfl⟩ : ∃ m, n = m + 1 := ⟨n - 1, by omega⟩
  have hc := ring_size h
  have hf := ring_frozen h 17
  have hlt := h.2.1
  have hm := h.2.2.1
  have h1 := ring_setSize h (k := m) (by omega)
  have hc1 := ring_first h1
  have hc2 := ring_size h1
  have hg1 := grown_setCell w b 17 (.int .i64 (m : Int))
  have hf1 := ring_frozen h1 16
  cases front with
  | false =>
    go_enter Try.func47, Try.ntmps47
    go_wp2_with fail
    generalize w.setCell ⟨b, 17, none⟩ (.int .i64 (m : Int)) = w1 at *
    clear h hc hf
    have HWR : Hid (IntKind.i64.wrap ((f : Int) + (m : Int)) = (f : Int) + (m : Int)) := wrap_small (by omega) (by omega)
    go_quiet ((go_at_call 59; first | exact Calls.quiet_of_same (get_any b f m sl _ _ (by exact h1) (by omega) (by omega)) | (rw [HWR.out]; exact Calls.quiet_of_same (get_any b f m sl _ _ (by exact h1) (by omega) (by omega)))))
    go_wp2_with fail
    go_ret
    have e : ((f : Int) + (m : Int)).toNat = f + m := by omega
    exact ⟨ret_str (by rw [e]; rfl), h1, grown_drewN hg1 _⟩
  | true =>
    go_enter Try.func47, Try.ntmps47
    go_wp2_with fail
    generalize w.setCell ⟨b, 17, none⟩ (.int .i64 (m : Int)) = w1 at *
    clear h hc hf
    go_quiet ((go_at_call 59; exact Calls.quiet_of_same (get_any b f m sl _ _ (by exact h1) (by omega) (by omega))))
    go_wp2_with fail
    go_ret
    have h2 := ring_setFirst h1 (k := (f + 1) % 16) (Nat.mod_lt _ (by omega))
    have e : ((((f + 1) % 16 : Nat)) : Int) = ((f : Int) + 1) % 16 := by omega
    rw [e] at h2
    refine ⟨ret_str (by rw [Int.toNat_natCast, Nat.mod_eq_of_lt hlt]; rfl), h2, grown_drewN (grown_trans hg1 (grown_setCell w1 b _ _)) _⟩
end Go.Proofs.Ytfcnhdaefleelaa
