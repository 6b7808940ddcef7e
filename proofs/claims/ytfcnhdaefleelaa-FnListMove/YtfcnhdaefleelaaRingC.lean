/- A ring of a list. -/
import Derived.Test.YtfcnhdaefleelaaRingB
namespace Go.Proofs.Ytfcnhdaefleelaa
open Go.RowKit

def none16 : List ByteArray := List.replicate 16 ByteArray.empty
theorem zero_ring : ringArr none16 0 0 = #[.string ByteArray.empty, .string ByteArray.empty, .string ByteArray.empty, .string ByteArray.empty, .string ByteArray.empty, .string ByteArray.empty, .string ByteArray.empty, .string ByteArray.empty, .string ByteArray.empty, .string ByteArray.empty, .string ByteArray.empty, .string ByteArray.empty, .string ByteArray.empty, .string ByteArray.empty, .string ByteArray.empty, .string ByteArray.empty, .int .i64 0, .int .i64 0] := rfl
theorem ring_new (w : World) : RingAt (w.alloc (.cells (ringArr none16 0 0) 67)) w.heap.size none16 0 0 :=
  ⟨rfl, by omega, by omega, heap_alloc_new w _⟩
theorem ringArr_len {sl : List ByteArray} {f n : Nat} (h : sl.length = 16) : (ringArr sl f n).size = 18 := by simp [ringArr, h]
theorem ringArr_one {sl : List ByteArray} {f n : Nat} : (ringArr sl f n).all (·.oneCell') = true := by
  unfold ringArr
  rw [List.all_toArray, List.all_append, Bool.and_eq_true]
  constructor
  · rw [List.all_eq_true]; intro x hx; rw [List.mem_map] at hx; obtain ⟨s, _, rfl⟩ := hx; rfl
  · rfl
theorem infoR : (Try.prog.info? 67).map (·.size) = some 18 := by kernel_rfl

theorem ringL_len (sl : List ByteArray) (f n : Nat) : (ringL sl f n).length = n := by simp [ringL]
theorem at_set_ne {sl : List ByteArray} {i j : Nat} {s : ByteArray} (h : i ≠ j) : at_ (sl.set i s) j = at_ sl j := by
  unfold at_; rw [List.getD_eq_getElem?_getD, List.getD_eq_getElem?_getD, List.getElem?_set_ne h]
theorem at_set_eq {sl : List ByteArray} {i : Nat} {s : ByteArray} (h : i < sl.length) : at_ (sl.set i s) i = s := by
  unfold at_; rw [List.getD_eq_getElem?_getD, List.getElem?_set_self h]; rfl
theorem ringL_back {sl : List ByteArray} {f n : Nat} (s : ByteArray) (hl : sl.length = 16) (hn : n < 16) : ringL (sl.set ((f + n) % 16) s) f (n + 1) = ringL sl f n ++ [s] := by
  unfold ringL
  rw [List.range_succ, List.map_append]
  congr 1
  · apply List.map_congr_left
    intro i hi
    rw [List.mem_range] at hi
    exact at_set_ne (by omega)
  · simp only [List.map_cons, List.map_nil]
    rw [at_set_eq (by rw [hl]; exact Nat.mod_lt _ (by omega))]
theorem ringL_front {sl : List ByteArray} {f n : Nat} (s : ByteArray) (hl : sl.length = 16) (_hf : f < 16) (hn : n < 16) : ringL (sl.set ((f + 15) % 16) s) ((f + 15) % 16) (n + 1) = s :: ringL sl f n := by
  unfold ringL
  rw [List.range_succ_eq_map, List.map_cons, List.map_map]
  congr 1
  · rw [show ((f + 15) % 16 + 0) % 16 = (f + 15) % 16 by omega, at_set_eq (by rw [hl]; exact Nat.mod_lt _ (by omega))]
  · apply List.map_congr_left
    intro i hi
    rw [List.mem_range] at hi
    show at_ _ (((f + 15) % 16 + (i + 1)) % 16) = _
    rw [show ((f + 15) % 16 + (i + 1)) % 16 = (f + i) % 16 by omega]
    exact at_set_ne (by omega)

theorem below2 (w : World) (A B : Obj) : Below w.heap.size w ((w.alloc A).alloc B) :=
  ((Below.refl _ _).alloc (Nat.le_refl _) A).alloc (by simp) B
/-- two rings that are new, side by side -/
def two (w : World) : World := (w.alloc (.cells (ringArr none16 0 0) 67)).alloc (.cells (ringArr none16 0 0) 67)
theorem two_size (w : World) : (two w).heap.size = w.heap.size + 2 := by simp [two]
theorem two_first (w : World) : (two w).heap[w.heap.size]? = some (.cells (ringArr none16 0 0) 67 (0, 0)) := heap_alloc2_old w _ _
theorem two_second (w : World) : RingAt (two w) (w.heap.size + 1) none16 0 0 := ⟨rfl, by omega, by omega, heap_alloc2_new w _ _⟩
theorem res_ring {w : World} {tmps : Array Value} {g : Nat} {t : TypeId} {sl : List ByteArray} {f n : Nat} {bb : Bool} (hl : sl.length = 16) (hp : tmps[2]?.getD undef = .pointer (some ⟨g, 0, none⟩)) (hb : tmps[3]?.getD undef = .bool bb)
    (hg : w.heap[g]? = some (.cells (ringArr sl f n) t (0, 0))) : (results Try.f46 tmps).run Try.prog w = .ok (.tuple #[.agg (ringArr sl f n), .bool bb]) w := by
  simp [results, Try.results46, asAddr, hp, hb, run_loadVar_row w g t 67 _ _ _ hg Try.underlying67 rfl (by rw [infoR, ringArr_len hl])]

set_option maxHeartbeats 2000000 in
theorem ringOf_bad (v : Value) (l : List ByteArray) (w : World) (hr : Reads w v l) (hlen : l.length ≤ 1048576) (hok : okB l = false) :
    Calls Try.prog 46 #[v] w fun e w' => e = .returned (.tuple #[.agg (ringArr none16 0 0), .bool false]) ∧ Below w.heap.size w w' := by
  obtain ⟨ao, cap, rfl⟩ := reads_shape hr
  have hB := below2 w (.cells (ringArr none16 0 0) 67) (.cells (ringArr none16 0 0) 67)
  go_enter Try.func46, Try.ntmps46
  go_wp2_with fail
  refine (listOk_any _ l (two w) (reads_kept hr hB) hlen).mono ?_
  rintro e w1 ⟨rfl, rfl⟩
  rw [hok]
  have hs2 := two_second w
  have hs1 := two_first w
  have hi18 : (Try.prog.info? 67).map (·.size) = some (ringArr none16 0 0).size := infoR
  have hB' : Below w.heap.size w (two w) := hB
  clear hB hr
  generalize two w = w2 at *
  go_wp2_with (first | (refine wpList_load_row rfl 67 (.tmp 4) rfl (w.heap.size + 1) rfl 67 _ (0, 0) _ hs2.2.2.2 Try.underlying67 rfl hi18 ?_) | (refine wpList_store_row rfl 67 (.tmp 2) (.tmp 10) rfl w.heap.size (ringArr none16 0 0) rfl rfl 67 _ hs1 hi18 rfl ringArr_one ?_))
  exact bodyPost_ret (res_ring (g := w.heap.size) (t := 67) rfl rfl rfl (setRow_heap _ _ _ _ _ _ hs1)) rfl ⟨rfl, below_setRow hB' (Nat.le_refl _) _⟩

theorem reads_some {w : World} {ao : Option Addr} {cap : Nat} {l : List ByteArray} (h : Reads w (.slice ao l.length cap) l) (h0 : 0 < l.length) :
    ∃ b off, ao = some ⟨b, off, none⟩ ∧ b < w.heap.size ∧ ∀ k, k < l.length → w.cell? ⟨b, off + k, none⟩ = some (.string (at_ l k)) := by
  rcases h with ⟨rfl, _⟩ | ⟨_, b, off, cap', hv, hb, _, _, hc⟩
  · simp at h0
  · simp only [Value.slice.injEq, true_and] at hv
    exact ⟨b, off, hv.1, hb, hc⟩

set_option maxHeartbeats 2000000 in
theorem ringOf_ok (v : Value) (l : List ByteArray) (w : World) (hr : Reads w v l) (hok : okB l = true) :
    Calls Try.prog 46 #[v] w fun e w' => ∃ sl, e = .returned (.tuple #[.agg (ringArr sl 0 l.length), .bool true]) ∧ sl.length = 16 ∧ ringL sl 0 l.length = l ∧ Below w.heap.size w w' := by
  have hn : l.length ≤ 16 := by unfold okB at hok; simp at hok; exact hok.1
  obtain ⟨ao, cap, hv⟩ := reads_shape hr
  have hB := below2 w (.cells (ringArr none16 0 0) 67) (.cells (ringArr none16 0 0) 67)
  have hr2 := reads_kept hr hB
  subst hv
  go_enter Try.func46, Try.ntmps46
  go_wp2_with fail
  refine (listOk_any _ l (two w) hr2 (by omega)).mono ?_
  rintro e w1 ⟨rfl, rfl⟩
  rw [hok]
  have hs2 := two_second w
  have hs1 := two_first w
  have hB' : Below w.heap.size w (two w) := hB
  clear hB hr2
  generalize two w = w2 at *
  go_wp2_with fail
  go_loopw [6, 13] (fun _ i wr => ∃ (k : Nat) (sl : List ByteArray), k ≤ l.length ∧ i = .int .i64 k ∧ RingAt wr (w.heap.size + 1) sl 0 k ∧ ringL sl 0 k = l.take k ∧ wr.heap[w.heap.size]? = some (.cells (ringArr none16 0 0) 67 (0, 0)) ∧ Below w.heap.size w wr) (fun _ i _ => l.length - (intOf i).toNat)
  case atStart => exact ⟨0, none16, Nat.zero_le _, rfl, hs2, rfl, hs1, hB'⟩
  case round =>
    obtain ⟨k, sl, hk, rfl, hR, hL, hz, hB⟩ := hrel
    have HL : Hid (ringL sl 0 k = l.take k) := hL
    clear hL hs2 hs1 hB'
    by_cases hlt : k < l.length
    · obtain ⟨b, off, rfl, hb, hc⟩ := reads_some hr (by omega)
      have hcell : wr.cell? ⟨b, off + k, none⟩ = some (.string (at_ l k)) := (hB.cell (p := ⟨b, off + k, none⟩) hb).trans (hc k hlt)
      have hsz := hB.size
      clear hc hr hok
      go_wp2_with (go_at_call 49; refine (pushBack_any (w.heap.size + 1) 0 k sl (at_ l k) _ hR (by omega)).mono ?_; rintro e w3 ⟨rfl, hR3, hg3⟩)
      go_roundw
      case rel => exact ⟨k + 1, _, hlt, by go_num, hR3, by rw [ringL_back _ hR.1 (by omega), HL.out, List.take_succ_eq_append_getElem hlt, at_lt hlt], by rw [hg3.block _ (by have := ring_lt hR; omega) (by simp)]; exact hz, hB.grown hg3 hsz (fun j hj => by simp at hj; omega)⟩
      case measure => simp [intOf]; omega
    · have e : k = l.length := by omega
      subst e
      have hi18 : (Try.prog.info? 67).map (·.size) = some (ringArr sl 0 l.length).size := by rw [infoR, ringArr_len hR.1]
      have ho18 : (ringArr none16 0 0).size = (ringArr sl 0 l.length).size := by rw [ringArr_len hR.1]; rfl
      clear hr hok
      go_wp2_with (first | (refine wpList_load_row rfl 67 (.tmp 4) rfl (w.heap.size + 1) rfl 67 _ (0, 0) _ hR.2.2.2 Try.underlying67 rfl hi18 ?_) | (refine wpList_store_row rfl 67 (.tmp 2) (.tmp 20) rfl w.heap.size (ringArr sl 0 l.length) rfl rfl 67 _ hz hi18 ho18 ringArr_one ?_))
      refine bodyPost_ret (res_ring (g := w.heap.size) (t := 67) hR.1 rfl rfl (setRow_heap _ _ _ _ _ _ hz)) rfl ⟨sl, rfl, hR.1, ?_, below_setRow hB (Nat.le_refl _) _⟩
      rw [HL.out, List.take_length]
end Go.Proofs.Ytfcnhdaefleelaa
