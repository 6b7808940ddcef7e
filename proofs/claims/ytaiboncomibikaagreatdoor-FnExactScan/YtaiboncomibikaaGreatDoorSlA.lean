/- The laws' own helpers over slices of texts: how much is left of a purse; a copy in new memory; are two alike. -/
import Derived.Test.YtaiboncomibikaaGreatDoorRows
import Derived.Test.YtaiboncomibikaaGreatDoorStrs
namespace Go.Proofs.YtaiboncomibikaaGreatDoor
open Go.RowKit

theorem reads_of_none {W : World} {a : Option Addr} {n c : Nat} (h : a = none ∧ n = 0 ∧ c = 0) :
    ∃ l, Reads W (.slice a n c) l ∧ (∀ s ∈ l, s.size ≤ maxLen) ∧ l.length ≤ maxLen := by
  obtain ⟨rfl, rfl, rfl⟩ := h
  exact ⟨[], .inl ⟨rfl, _, _, rfl, by simp⟩, by simp, by simp⟩
theorem reads_of_some {W : World} {a : Option Addr} {n c ln cp : Nat} {x : Addr} {ss : List ByteArray} (h : a = some x ∧ n = ln ∧ c = cp) (hl : ln ≤ cp) (hm : cp ≤ maxLen) (hz : ss.length = cp)
    (hcell : ∀ i, i < ss.length → W.cell? (x.add i) = some (.string (ss.getD i ByteArray.empty))) (hws : ∀ s ∈ ss, s.size ≤ maxLen) :
    ∃ l, Reads W (.slice a n c) l ∧ (∀ s ∈ l, s.size ≤ maxLen) ∧ l.length ≤ maxLen := by
  obtain ⟨rfl, rfl, rfl⟩ := h
  have e : (ss.take n).length = n := by simp; omega
  refine ⟨ss.take n, ?_, fun s hs => hws s (List.mem_of_mem_take hs), by omega⟩
  by_cases h0 : n = 0
  · subst h0; exact .inl ⟨by simp, _, _, rfl, by simp⟩
  · obtain ⟨b, off, spot⟩ := x
    have hc := hcell 0 (by omega)
    have hspot : spot = none := by simpa [Addr.add] using World.cell?_spot hc
    subst hspot
    refine .inr ⟨by omega, b, off, c, by rw [e], World.block_lt_of_cell? W _ hc, by omega, hm, fun k hk => ?_⟩
    have h1 := hcell k (by omega)
    have h2 : at_ (ss.take n) k = ss.getD k ByteArray.empty := by
      unfold at_; rw [List.getD_eq_getElem?_getD, List.getD_eq_getElem?_getD, List.getElem?_take, if_pos (by omega)]
    rw [h2, ← h1]
    congr 1
    unfold Addr.add; split <;> simp_all

set_option maxHeartbeats 400000 in
theorem sz_any (v : Value) (l : List ByteArray) (left : Int) (w : World) (hr : Reads w v l) (hl : 0 ≤ left) (hl2 : left ≤ 1048576) (hs : ∀ s ∈ l, s.size ≤ maxLen) (hlen : l.length ≤ maxLen) :
    Calls Tryz.prog 33 #[v, .int .i64 left] w fun e w' => e = .returned (.int .i64 (sz l left)) ∧ w = w' := by
  rcases hr with ⟨rfl, ao, cap, rfl, _⟩ | ⟨h0, b, off, cap, rfl, hb, hnc, hcm, hc⟩
  · go_enter Tryz.func33, Tryz.ntmps33
    go_wp2
    refine wp_loop_rounds 1 ?_
    rw [rounds_succ]
    go_wp2
    go_ret
    exact ⟨ret_int' (by simp [sz, szTo]; omega), rfl⟩
  · unfold maxLen at hlen hcm hs
    have hat : ∀ k, k < l.length → (at_ l k).size ≤ 9223372036854775807 := fun k hk => by rw [at_lt hk]; exact hs _ (List.getElem_mem hk)
    clear hs
    by_cases hneg : left - (l.length : Int) < 0
    · have hz : sz l left = -1 := sz_neg (k := 0) (Nat.zero_le _) (by simp [szTo]; omega)
      have HZ : Hid (sz l left = -1) := hz
      clear hz
      go_enter Tryz.func33, Tryz.ntmps33
      go_wp2
      go_ret
      exact ⟨ret_int' HZ.out.symm, rfl⟩
    · have hge : 0 ≤ left - (l.length : Int) := by omega
      go_enter Tryz.func33, Tryz.ntmps33
      go_wp2
      go_loop [1, 5] (fun c i => ∃ k : Nat, k ≤ l.length ∧ i = .int .i64 k ∧ 0 ≤ szTo l left k ∧ szTo l left k ≤ left ∧ c = .int .i64 (szTo l left k)) (fun _ i => l.length - (intOf i).toNat)
      case atStart => exact ⟨0, Nat.zero_le _, rfl, by simp [szTo]; omega, by simp [szTo]; omega, by simp [szTo]⟩
      case round =>
        obtain ⟨k, hk, rfl, hp, hp2, rfl⟩ := hrel
        by_cases hlt : k < l.length
        · have hcell := hc k hlt
          have hsz := hat k hlt
          have HS : Hid (szTo l left (k + 1) = szTo l left k - (at_ l k).size) := szTo_succ hlt
          clear hc hat
          go_wp2
          · go_ret
            exact ⟨ret_int' (sz_neg (k := k + 1) hlt (by rw [HS.out]; assumption)).symm, rfl⟩
          · go_round
            case rel => exact ⟨k + 1, hlt, by go_num, by rw [HS.out]; assumption, by rw [HS.out]; omega, by rw [HS.out]⟩
            case measure => simp [intOf]; omega
        · go_wp2
          go_ret
          exact ⟨ret_int' (by have e : k = l.length := by omega
                              subst e; unfold sz; rw [if_neg (by omega)]), rfl⟩

theorem infoS : (Tryz.prog.info? 9).map (fun i => (i.zero, i.size, i.bytes)) = some (some (.string ByteArray.empty), 1, 16) := by kernel_rfl

/-- the first k texts of l in a row of as many as l has -/
def part (l : List ByteArray) (k : Nat) : List Value := (l.take k).map Value.string ++ List.replicate (l.length - k) (Value.string ByteArray.empty)
theorem part_len (l : List ByteArray) (k : Nat) (h : k ≤ l.length) : (part l k).length = l.length := by simp [part]; omega
theorem part_set (l : List ByteArray) (k : Nat) (h : k < l.length) : (part l k).set k (.string (at_ l k)) = part l (k + 1) := by
  unfold part
  have e : l.length - k = (l.length - (k + 1)) + 1 := by omega
  rw [List.set_append_right _ _ (by simp; omega), e, List.replicate_succ]
  have e2 : k - ((l.take k).map Value.string).length = 0 := by simp; omega
  rw [e2, List.set_cons_zero, List.take_succ_eq_append_getElem h, at_lt h, List.map_append, List.append_assoc]
  rfl
theorem part_all (l : List ByteArray) : part l l.length = l.map Value.string := by simp [part]
theorem part_none (l : List ByteArray) : part l 0 = List.replicate l.length (Value.string ByteArray.empty) := by simp [part]

set_option maxHeartbeats 1000000 in
theorem to_any (v : Value) (l : List ByteArray) (w : World) (hr : Reads w v l) (hlen : l.length ≤ 1048576) :
    Calls Tryz.prog 41 #[v] w fun e w' => ∃ v', e = .returned v' ∧ Owns w' w.heap.size v' l ∧ Below w.heap.size w w' := by
  obtain ⟨i0, hi, hz0, hz1, hz2⟩ := info_parts infoS
  have hbt : i0.bytes * l.length ≤ 281474976710656 := by rw [hz2]; omega
  have hml : l.length ≤ maxLen := by unfold maxLen; omega
  rcases hr with ⟨rfl, ao, cap, rfl, _⟩ | ⟨h0, b, off, cap, rfl, hb, hnc, hcm, hc⟩
  · go_enter Tryz.func41, Tryz.ntmps41
    go_wp2_with (at_make; refine wpList_make_full _ rfl _ _ 26 rfl w.heap.size 9 i0 (.string ByteArray.empty) 1 Tryz.underlying26 hi hz0 hz1 _ _ _ _ 0 rfl rfl rfl rfl (by simp) (Nat.zero_le _) (Nat.le_refl _) ?_)
    intro w1 hown hgrow
    go_wp2
    refine wp_loop_rounds 1 ?_
    rw [rounds_succ]
    go_wp2
    go_ret
    rw [toList_madeCells_one] at hown
    exact ⟨_, rfl, hown, (Below.refl _ _).grown hgrow (Nat.le_refl _) (fun k hk => by cases hk)⟩
  · go_enter Tryz.func41, Tryz.ntmps41
    go_wp2_with (at_make; refine wpList_make_full _ rfl _ _ 26 rfl w.heap.size 9 i0 (.string ByteArray.empty) 1 Tryz.underlying26 hi hz0 hz1 _ _ _ _ l.length rfl rfl rfl rfl hbt hml (Nat.le_refl _) ?_)
    intro w1 hown hgrow
    have hB1 : Below w.heap.size w w1 := (Below.refl _ _).grown hgrow (Nat.le_refl _) (fun k hk => by cases hk)
    have hown1 : w1.ownsRow w.heap.size 9 1 (.slice (some ⟨w.heap.size, 0, none⟩) l.length l.length) l.length (part l 0) := by
      rw [part_none, ← toList_madeCells_one]; simpa [Value.cells] using hown
    clear hown hgrow hbt hml hi hz0 hz1 hz2
    go_wp2
    go_loopw [4] (fun i wr => ∃ k : Nat, k ≤ l.length ∧ i = .int .i64 k ∧ wr.ownsRow w.heap.size 9 1 (.slice (some ⟨w.heap.size, 0, none⟩) l.length l.length) l.length (part l k) ∧ Below w.heap.size w wr) (fun i _ => l.length - (intOf i).toNat)
    case atStart => exact ⟨0, Nat.zero_le _, rfl, hown1, hB1⟩
    case round =>
      obtain ⟨k, hk, rfl, hown, hB⟩ := hrel
      by_cases hlt : k < l.length
      · have hcell : wr.cell? ⟨b, off + k, none⟩ = some (.string (at_ l k)) := (hB.cell (p := ⟨b, off + k, none⟩) hb).trans (hc k hlt)
        have hfr := hown.frozenAt k
        have hold : wr.cell? ⟨w.heap.size, k, none⟩ = some (.string ByteArray.empty) := by
          rw [hown.cellAt k (by omega)]; unfold part
          rw [List.getElem?_append_right (by simp; omega), List.getElem?_replicate, if_pos (by simp; omega)]
        have hst := hown.stored k (.string (at_ l k))
        rw [part_set l k hlt] at hst
        have HO : Hid (wr.ownsRow w.heap.size 9 1 (.slice (some ⟨w.heap.size, 0, none⟩) l.length l.length) l.length (part l k)) := hown
        clear hc hown hown1 hB1
        go_wp2
        go_roundw
        case rel => exact ⟨k + 1, hlt, by go_num, hst.1, hB.setCell (Nat.le_refl _) _⟩
        case measure => simp [intOf]; omega
      · have e : k = l.length := by omega
        subst e
        rw [part_all] at hown
        clear hown1 hB1
        go_wp2
        go_ret
        exact ⟨_, rfl, hown, hB⟩

/-- texts are alike up to k -/
def alikeTo (a b : List ByteArray) (k : Nat) : Prop := ∀ j, j < k → at_ a j = at_ b j
theorem alike_all {a b : List ByteArray} (h : a.length = b.length) (hk : alikeTo a b a.length) : a = b := by
  apply List.ext_getElem h
  intro i h1 h2
  have := hk i h1
  rwa [at_lt h1, at_lt h2] at this
theorem alike_not {a b : List ByteArray} {k : Nat} (hk : (at_ a k).toList ≠ (at_ b k).toList) : decide (a = b) = false := by
  simp only [decide_eq_false_iff_not]
  intro e; rw [e] at hk; exact hk rfl
theorem bytes_ext {a b : ByteArray} (h : a.toList = b.toList) : a = b := by
  rw [Lib.toList_data, Lib.toList_data] at h
  cases a; cases b; simp only [ByteArray.mk.injEq]; exact Array.toList_inj.1 h

theorem ne_of {a b : ByteArray} (h : (!a.toList == b.toList) = true) : a.toList ≠ b.toList := by simpa using h
theorem eq_of {a b : ByteArray} (h : (!a.toList == b.toList) = false) : a = b := bytes_ext (by simpa using h)

set_option maxHeartbeats 1000000 in
theorem eq_any (v u : Value) (l m : List ByteArray) (w : World) (hr : Reads w v l) (hq : Reads w u m) (hlen : l.length ≤ 1048576) (hlen2 : m.length ≤ 1048576) :
    Calls Tryz.prog 8 #[v, u] w fun e w' => e = .returned (.bool (decide (l = m))) ∧ Below w.heap.size w w' := by
  by_cases hne : l.length = m.length
  · rcases hr with ⟨rfl, ao, cap, rfl, _⟩ | ⟨h0, b, off, cap, rfl, hb, hnc, hcm, hc⟩
    · have e : m = [] := List.length_eq_zero_iff.1 hne.symm
      subst e
      rcases hq with ⟨_, ao2, cap2, rfl, _⟩ | ⟨h0, _⟩
      · go_enter Tryz.func8, Tryz.ntmps8
        go_wp2
        refine wp_loop_rounds 1 ?_
        rw [rounds_succ]
        go_wp2
        go_ret
        exact ⟨rfl, Below.refl _ _⟩
      · simp at h0
    · rcases hq with ⟨rfl, _⟩ | ⟨_, b2, off2, cap2, rfl, hb2, _, _, hc2⟩
      · simp at hne; subst hne; simp at h0
      · rw [← hne] at hc2 ⊢
        have HNE : Hid (l.length = m.length) := hne
        clear hne hcm hnc
        go_enter Tryz.func8, Tryz.ntmps8
        go_wp2
        go_loopw [5] (fun i wr => ∃ k : Nat, k ≤ l.length ∧ i = .int .i64 k ∧ alikeTo l m k ∧ Below w.heap.size w wr) (fun i _ => l.length - (intOf i).toNat)
        case atStart => exact ⟨0, Nat.zero_le _, rfl, fun j hj => by omega, Below.refl _ _⟩
        case round =>
          obtain ⟨k, hk, rfl, hal, hB⟩ := hrel
          by_cases hlt : k < l.length
          · have hcell : wr.cell? ⟨b, off + k, none⟩ = some (.string (at_ l k)) := (hB.cell (p := ⟨b, off + k, none⟩) hb).trans (hc k hlt)
            have hcell2 : wr.cell? ⟨b2, off2 + k, none⟩ = some (.string (at_ m k)) := (hB.cell (p := ⟨b2, off2 + k, none⟩) hb2).trans (hc2 k hlt)
            have hlt' : (k : Int) < (l.length : Int) := by omega
            clear hc hc2
            go_wp2_with fail
            go_quiet (fail)
            go_wp2
            · go_ret
              exact ⟨ret_bool (alike_not (ne_of ‹_›)).symm, below_drewN hB _⟩
            · have he : at_ l k = at_ m k := eq_of ‹_›
              go_roundw
              case rel => exact ⟨k + 1, hlt, by go_num, fun j hj => by
                by_cases hj' : j = k
                · rw [hj']; exact he
                · exact hal j (by omega), below_drewN hB _⟩
              case measure => simp [intOf]; omega
          · have e : k = l.length := by omega
            subst e
            go_wp2
            go_ret
            exact ⟨ret_bool (by rw [eq_comm, decide_eq_true_iff]; exact alike_all HNE.out hal), hB⟩
  · have hf : ((l.length : Int) != (m.length : Int)) = true := by simp; omega
    have HF : Hid (decide (l = m) = false) := by
      show _ = _
      simp only [decide_eq_false_iff_not]; intro e; rw [e] at hne; exact hne rfl
    have hr' : ∃ ao cap, v = .slice ao l.length cap := by
      rcases hr with ⟨rfl, ao, cap, rfl, _⟩ | ⟨h0, b, off, cap, rfl, _⟩
      · exact ⟨_, _, rfl⟩
      · exact ⟨_, _, rfl⟩
    have hq' : ∃ ao cap, u = .slice ao m.length cap := by
      rcases hq with ⟨rfl, ao, cap, rfl, _⟩ | ⟨h0, b, off, cap, rfl, _⟩
      · exact ⟨_, _, rfl⟩
      · exact ⟨_, _, rfl⟩
    obtain ⟨ao, cap, rfl⟩ := hr'
    obtain ⟨ao2, cap2, rfl⟩ := hq'
    clear hr hq hne
    go_enter Tryz.func8, Tryz.ntmps8
    go_wp2
    go_ret
    exact ⟨ret_bool HF.out.symm, Below.refl _ _⟩
end Go.Proofs.YtaiboncomibikaaGreatDoor
