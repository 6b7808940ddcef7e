/- The laws' own helpers over slices of texts: how much is left of a purse; a copy in new memory; are two alike. -/
import Derived.Test.YtnlkgghpebaenaaRows
import Derived.Test.YtnlkgghpebaenaaStrs
namespace Go.Proofs.Ytnlkgghpebaenaa
open Go.RowKit

theorem reads_of_none {W : World} {a : Option Addr} {n c : Nat} (h : a = none ∧ n = 0 ∧ c = 0) :
    ∃ l, Reads W (.slice a n c) l ∧ (∀ s ∈ l, s.size ≤ maxLen) ∧ l.length ≤ maxLen := by
  obtain ⟨rfl, rfl, rfl⟩ := h
  exact ⟨[], .inl ⟨rfl, _, _, rfl, by simp⟩, by simp, by simp⟩
theorem reads_of_some {W : World} {a : Option Addr} {n c ln cp : Nat} {x : Addr} {ss : List ByteArray} (h : a = some x ∧ n = ln ∧ c = cp) (hl : ln ≤ cp) (hm : cp ≤ maxLen) (hz : ss.length = cp)
    (hcell : ∀ i, i < ss.length → W.cell? (x.add i) = some (.string (ss.getD i ByteArray.empty))) (hws : ∀ s ∈ ss, s.size ≤ maxLen) :
    ∃ l, Reads W (.slice a n c) l ∧ (∀ s ∈ l, s.size ≤ maxLen) ∧ l.length ≤ maxLen := by
  obtain ⟨rfl, rfl, rfl⟩ := h
  have e : (ss.take n).length = n := by simp; omega
  refine ⟨ss.take n, ?_, fun s hs => hws s (List.mem_of_mem_take hs), by omega⟩
  by_cases h0 : n = 0
  · subst h0; exact .inl ⟨by simp, _, _, rfl, by simp⟩
  · obtain ⟨b, off, spot⟩ := x
    have hc := hcell 0 (by omega)
    have hspot : spot = none := by simpa [Addr.add] using World.cell?_spot hc
    subst hspot
    refine .inr ⟨by omega, b, off, c, by rw [e], World.block_lt_of_cell? W _ hc, by omega, hm, fun k hk => ?_⟩
    have h1 := hcell k (by omega)
    have h2 : at_ (ss.take n) k = ss.getD k ByteArray.empty := by
      unfold at_; rw [List.getD_eq_getElem?_getD, List.getD_eq_getElem?_getD, List.getElem?_take, if_pos (by omega)]
    rw [h2, ← h1]
    congr 1
    unfold Addr.add; split <;> simp_all

theorem infoS : (Try.prog.info? 9).map (fun i => (i.zero, i.size, i.bytes)) = some (some (.string ByteArray.empty), 1, 16) := by kernel_rfl

/-- the first k texts of l in a row of as many as l has -/
def part (l : List ByteArray) (k : Nat) : List Value := (l.take k).map Value.string ++ List.replicate (l.length - k) (Value.string ByteArray.empty)
theorem part_len (l : List ByteArray) (k : Nat) (h : k ≤ l.length) : (part l k).length = l.length := by simp [part]; omega
theorem part_set (l : List ByteArray) (k : Nat) (h : k < l.length) : (part l k).set k (.string (at_ l k)) = part l (k + 1) := by
  unfold part
  have e : l.length - k = (l.length - (k + 1)) + 1 := by omega
  rw [List.set_append_right _ _ (by simp; omega), e, List.replicate_succ]
  have e2 : k - ((l.take k).map Value.string).length = 0 := by simp; omega
  rw [e2, List.set_cons_zero, List.take_succ_eq_append_getElem h, at_lt h, List.map_append, List.append_assoc]
  rfl
theorem part_all (l : List ByteArray) : part l l.length = l.map Value.string := by simp [part]
theorem part_none (l : List ByteArray) : part l 0 = List.replicate l.length (Value.string ByteArray.empty) := by simp [part]

/-- texts are alike up to k -/
def alikeTo (a b : List ByteArray) (k : Nat) : Prop := ∀ j, j < k → at_ a j = at_ b j
theorem alike_all {a b : List ByteArray} (h : a.length = b.length) (hk : alikeTo a b a.length) : a = b := by
  apply List.ext_getElem h
  intro i h1 h2
  have := hk i h1
  rwa [at_lt h1, at_lt h2] at this
theorem alike_not {a b : List ByteArray} {k : Nat} (hk : (at_ a k).toList ≠ (at_ b k).toList) : decide (a = b) = false := by
  simp only [decide_eq_false_iff_not]
  intro e; rw [e] at hk; exact hk rfl
theorem bytes_ext {a b : ByteArray} (h : a.toList = b.toList) : a = b := by
  rw [Lib.toList_data, Lib.toList_data] at h
  cases a; cases b; simp only [ByteArray.mk.injEq]; exact Array.toList_inj.1 h

theorem ne_of {a b : ByteArray} (h : (!a.toList == b.toList) = true) : a.toList ≠ b.toList := by simpa using h
theorem eq_of {a b : ByteArray} (h : (!a.toList == b.toList) = false) : a = b := bytes_ext (by simpa using h)

set_option maxHeartbeats 1000000 in
theorem eq_any (v u : Value) (l m : List ByteArray) (w : World) (hr : Reads w v l) (hq : Reads w u m) (hlen : l.length ≤ 1048576) (hlen2 : m.length ≤ 1048576) :
    Calls Try.prog 8 #[v, u] w fun e w' => e = .returned (.bool (decide (l = m))) ∧ Below w.heap.size w w' := by
  by_cases hne : l.length = m.length
  · rcases hr with ⟨rfl, ao, cap, rfl, _⟩ | ⟨h0, b, off, cap, rfl, hb, hnc, hcm, hc⟩
    · have e : m = [] := List.length_eq_zero_iff.1 hne.symm
      subst e
      rcases hq with ⟨_, ao2, cap2, rfl, _⟩ | ⟨h0, _⟩
      · go_enter Try.func8, Try.ntmps8
        go_wp2
        refine wp_loop_rounds 1 ?_
        rw [rounds_succ]
        go_wp2
        go_ret
        exact ⟨rfl, Below.refl _ _⟩
      · simp at h0
    · rcases hq with ⟨rfl, _⟩ | ⟨_, b2, off2, cap2, rfl, hb2, _, _, hc2⟩
      · simp at hne; subst hne; simp at h0
      · rw [← hne] at hc2 ⊢
        have HNE : Hid (l.length = m.length) := hne
        clear hne hcm hnc
        go_enter Try.func8, Try.ntmps8
        go_wp2
        go_loopw [5] (fun i wr => ∃ k : Nat, k ≤ l.length ∧ i = .int .i64 k ∧ alikeTo l m k ∧ Below w.heap.size w wr) (fun i _ => l.length - (intOf i).toNat)
        case atStart => exact ⟨0, Nat.zero_le _, rfl, fun j hj => by omega, Below.refl _ _⟩
        case round =>
          obtain ⟨k, hk, rfl, hal, hB⟩ := hrel
          by_cases hlt : k < l.length
          · have hcell : wr.cell? ⟨b, off + k, none⟩ = some (.string (at_ l k)) := (hB.cell (p := ⟨b, off + k, none⟩) hb).trans (hc k hlt)
            have hcell2 : wr.cell? ⟨b2, off2 + k, none⟩ = some (.string (at_ m k)) := (hB.cell (p := ⟨b2, off2 + k, none⟩) hb2).trans (hc2 k hlt)
            have hlt' : (k : Int) < (l.length : Int) := by omega
            clear hc hc2
            go_wp2_with fail
            go_quiet (fail)
            go_wp2
            · go_ret
              exact ⟨ret_bool (alike_not (ne_of ‹_›)).symm, below_drewN hB _⟩
            · have he : at_ l k = at_ m k := eq_of ‹_›
              go_roundw
              case rel => exact ⟨k + 1, hlt, by go_num, fun j hj => by
                by_cases hj' : j = k
                · rw [hj']; exact he
                · exact hal j (by omega), below_drewN hB _⟩
              case measure => simp [intOf]; omega
          · have e : k = l.length := by omega
            subst e
            go_wp2
            go_ret
            exact ⟨ret_bool (by rw [eq_comm, decide_eq_true_iff]; exact alike_all HNE.out hal), hB⟩
  · have hf : ((l.length : Int) != (m.length : Int)) = true := by simp; omega
    have HF : Hid (decide (l = m) = false) := by
      show _ = _
      simp only [decide_eq_false_iff_not]; intro e; rw [e] at hne; exact hne rfl
    have hr' : ∃ ao cap, v = .slice ao l.length cap := by
      rcases hr with ⟨rfl, ao, cap, rfl, _⟩ | ⟨h0, b, off, cap, rfl, _⟩
      · exact ⟨_, _, rfl⟩
      · exact ⟨_, _, rfl⟩
    have hq' : ∃ ao cap, u = .slice ao m.length cap := by
      rcases hq with ⟨rfl, ao, cap, rfl, _⟩ | ⟨h0, b, off, cap, rfl, _⟩
      · exact ⟨_, _, rfl⟩
      · exact ⟨_, _, rfl⟩
    obtain ⟨ao, cap, rfl⟩ := hr'
    obtain ⟨ao2, cap2, rfl⟩ := hq'
    clear hr hq hne
    go_enter Try.func8, Try.ntmps8
    go_wp2
    go_ret
    exact ⟨ret_bool HF.out.symm, Below.refl _ _⟩
end Go.Proofs.Ytnlkgghpebaenaa
