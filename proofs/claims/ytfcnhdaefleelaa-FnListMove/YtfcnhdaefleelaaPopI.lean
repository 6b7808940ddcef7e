/- The program's ListPop. -/
import Derived.Test.YtfcnhdaefleelaaRingC
namespace Go.Proofs.Ytfcnhdaefleelaa
open Go.RowKit

/-- a ring that was handed over by value, in memory of its own -/
def stored (w : World) (sl : List ByteArray) (f n : Nat) : World := (w.alloc (.cells (ringArr none16 0 0) 67)).setRow w.heap.size (ringArr sl f n)
theorem stored_size (w : World) (sl : List ByteArray) (f n : Nat) : (stored w sl f n).heap.size = w.heap.size + 1 := by simp [stored]
theorem ring_stored (w : World) {sl : List ByteArray} {f n : Nat} (hl : sl.length = 16) (hf : f < 16) (hn : n ≤ 16) : RingAt (stored w sl f n) w.heap.size sl f n :=
  ⟨hl, hf, hn, setRow_heap _ _ _ _ _ _ (heap_alloc_new w _)⟩
theorem below_stored {B : Nat} {a w : World} (h : Below B a w) (hB : B ≤ w.heap.size) (sl : List ByteArray) (f n : Nat) : Below B a (stored w sl f n) :=
  below_setRow (h.alloc hB _) hB _
theorem infoRs {sl : List ByteArray} {f n : Nat} (h : sl.length = 16) : (Try.prog.info? 67).map (·.size) = some (ringArr sl f n).size := by rw [infoR, ringArr_len h]
theorem sizeRs {sl : List ByteArray} {f n : Nat} (h : sl.length = 16) : (ringArr none16 0 0).size = (ringArr sl f n).size := by rw [ringArr_len h]; rfl





theorem owns_nil (w : World) (base : Nat) : Owns w base (.slice none 0 0) [] := World.ownsRow_nil _ _ _ _

set_option maxHeartbeats 2000000 in
theorem implPop_bad (v : Value) (l : List ByteArray) (front : Bool) (w : World) (hr : Reads w v l) (hlen : l.length ≤ 1048576) (hok : okB l = false) :
    Calls Try.prog 21 #[v, .bool front] w fun e w' => ∃ u, e = .returned (.tuple #[u, .string ByteArray.empty, .bool false]) ∧ Owns w' w.heap.size u [] ∧ Below w.heap.size w w' := by
  go_enter Try.func21, Try.ntmps21
  go_wp2_with fail
  refine (ringOf_bad v l _ hr hlen hok).mono ?_
  rintro e w1 ⟨rfl, hB⟩
  have hsz := hB.size
  have hi := infoRs (f := 0) (n := 0) (sl := none16) rfl
  go_wp2_with (refine wpList_store_row rfl 67 (.tmp 7) (.tmp 13) rfl w1.heap.size (ringArr none16 0 0) rfl rfl 67 (ringArr none16 0 0) (heap_alloc_new _ _) hi rfl ringArr_one ?_; show wpList _ _ _ _ _ (stored w1 none16 0 0))
  go_ret3
  exact ⟨_, rfl, owns_nil _ _, below_stored hB hsz _ _ _⟩

theorem ringL_popBack (sl : List ByteArray) (f n : Nat) : ringL sl f (n - 1) = (ringL sl f n).dropLast := by
  cases n with
  | zero => rfl
  | succ n => unfold ringL; rw [List.range_succ, List.map_append]; simp
theorem ringL_popFront (sl : List ByteArray) (f n : Nat) : ringL sl ((f + 1) % 16) (n - 1) = (ringL sl f n).tail := by
  cases n with
  | zero => rfl
  | succ n =>
    unfold ringL
    rw [List.range_succ_eq_map, List.map_cons, List.tail_cons, List.map_map]
    apply List.map_congr_left
    intro i _
    show at_ _ (((f + 1) % 16 + i) % 16) = at_ _ ((f + (i + 1)) % 16)
    congr 1; omega
theorem ringL_at {sl : List ByteArray} {f n i : Nat} (h : i < n) : at_ (ringL sl f n) i = at_ sl ((f + i) % 16) := by
  rw [at_lt (by rw [ringL_len]; exact h)]; simp [ringL]

set_option maxHeartbeats 2000000 in
theorem implPop_none (v : Value) (front : Bool) (w : World) (hr : Reads w v []) :
    Calls Try.prog 21 #[v, .bool front] w fun e w' => ∃ u, e = .returned (.tuple #[u, .string ByteArray.empty, .bool false]) ∧ Owns w' w.heap.size u [] ∧ Below w.heap.size w w' := by
  go_enter Try.func21, Try.ntmps21
  go_wp2_with fail
  refine (ringOf_ok v [] _ hr rfl).mono ?_
  rintro e w1 ⟨sl, rfl, hl, _, hB⟩
  have hsz := hB.size
  have hi := infoRs (f := 0) (n := 0) hl
  have hR := ring_stored w1 hl (f := 0) (n := 0) (by omega) (by omega)
  have hc := ring_size hR
  have hB2 := below_stored hB hsz sl 0 0
  go_wp2_with (refine wpList_store_row rfl 67 (.tmp 7) (.tmp 13) rfl w1.heap.size (ringArr sl 0 0) rfl rfl 67 (ringArr none16 0 0) (heap_alloc_new _ _) hi (sizeRs hl) ringArr_one ?_; show wpList _ _ _ _ _ (stored w1 sl 0 0))
  go_ret3
  exact ⟨_, rfl, owns_nil _ _, hB2⟩

theorem ret3 {u : Value} {a b : ByteArray} {c : Bool} (h : a = b) : Ending.returned (.tuple #[u, .string a, .bool c]) = .returned (.tuple #[u, .string b, .bool c]) := by rw [h]

set_option maxHeartbeats 2000000 in
theorem implPop_ok (v : Value) (l : List ByteArray) (front : Bool) (w : World) (hr : Reads w v l) (hok : okB l = true) (h0 : 0 < l.length) :
    Calls Try.prog 21 #[v, .bool front] w fun e w' => ∃ u, e = .returned (.tuple #[u, .string (popT l front), .bool true]) ∧ Owns w' w.heap.size u (popL l front) ∧ Below w.heap.size w w' := by
  have hn : l.length ≤ 16 := by unfold okB at hok; simp at hok; exact hok.1
  go_enter Try.func21, Try.ntmps21
  go_wp2_with fail
  refine (ringOf_ok v l _ hr hok).mono ?_
  rintro e w1 ⟨sl, rfl, hl, hL, hB⟩
  have hsz := hB.size
  have hi := infoRs (f := 0) (n := l.length) hl
  have hR := ring_stored w1 hl (f := 0) (n := l.length) (by omega) hn
  have hc := ring_size hR
  have hB2 := below_stored hB hsz sl 0 l.length
  have hne : ((l.length : Int) == 0) = false := beq_eq_false_iff_ne.2 (by omega)
  have HL : Hid (ringL sl 0 l.length = l) := hL
  clear hL hr hok
  have hs2 := stored_size w1 sl 0 l.length
  go_wp2_with (refine wpList_store_row rfl 67 (.tmp 7) (.tmp 13) rfl w1.heap.size (ringArr sl 0 l.length) rfl rfl 67 (ringArr none16 0 0) (heap_alloc_new _ _) hi (sizeRs hl) ringArr_one ?_; show wpList _ _ _ _ _ (stored w1 sl 0 l.length))
  refine (pop_any w1.heap.size 0 l.length sl front _ hR h0).mono ?_
  rintro e w2 ⟨rfl, hR2, hg2⟩
  have hB3 : Below w.heap.size w w2 := hB2.grown hg2 (by rw [hs2]; omega) (fun k hk => by simp at hk; omega)
  have hsz3 := hB3.size
  clear hB2 hg2 hR hc
  go_wp2_with fail
  refine (texts_any w1.heap.size _ (l.length - 1) sl _ hR2).mono ?_
  rintro e w3 ⟨u, rfl, ho, hB4⟩
  have hB5 := hB3.trans (hB4.mono hsz3)
  have ho2 := owns_base ho hsz3
  clear hB4 ho hR2 hB3
  go_wp2_with fail
  go_ret3
  refine ⟨u, ret3 ?_, ?_, hB5⟩
  · cases front
    · show at_ sl ((0 + l.length - 1) % 16) = at_ l (l.length - 1)
      conv => rhs; arg 1; rw [← HL.out]
      rw [ringL_at (by omega), show (0 + l.length - 1) % 16 = (0 + (l.length - 1)) % 16 by omega]
    · show at_ sl 0 = at_ l 0
      conv => rhs; rw [← HL.out]
      rw [ringL_at (by omega)]
  · cases front
    · have ho3 : Owns w3 w.heap.size u (ringL sl 0 (l.length - 1)) := ho2
      rw [ringL_popBack, HL.out] at ho3; exact ho3
    · have ho3 : Owns w3 w.heap.size u (ringL sl ((0 + 1) % 16) (l.length - 1)) := ho2
      rw [ringL_popFront, HL.out] at ho3; exact ho3
end Go.Proofs.Ytfcnhdaefleelaa
