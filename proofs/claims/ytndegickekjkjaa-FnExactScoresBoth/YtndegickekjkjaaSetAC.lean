/- The program's ascending: Clone, Sort, Compact of texts. -/
import Derived.Test.YtndegickekjkjaaSetAB
namespace Go.Proofs.Ytndegickekjkjaa
open Go.RowKit

set_option maxHeartbeats 4000000 in
theorem cloneS_any (v : Value) (l : List ByteArray) (w : World) (hr : Reads w v l) (hlen : l.length ≤ 1048576) :
    Calls Try.prog 43 #[v] w fun e w' => ∃ v', e = .returned v' ∧ Owns w' w.heap.size v' l ∧ Below w.heap.size w w' := by
  obtain ⟨i0, hi, hz0, hz1, hz2⟩ := info_parts infoS
  have hown0 : (w.alloc (.cells #[] 9)).ownsRow w.heap.size 9 1 (.slice (some ⟨w.heap.size, 0, none⟩) 0 0) 0 [] := World.ownsRow_lit w #[] 0 (Nat.le_refl _) (by simp) rfl
  have hB0 : Below w.heap.size w (w.alloc (.cells #[] 9)) := (Below.refl _ _).alloc (Nat.le_refl _) _
  have hnil := fun (w : World) (a : Option Addr) (n c : Nat) => Lib.run_eql_slice_nil (P := Try.prog) w 49 9 a n c 0 0 Try.underlying49
  rcases hr with ⟨rfl, ao, cap, rfl, hcap⟩ | ⟨h0, b, off, cap, rfl, hb, hnc, hcm, hc⟩
  · cases ao with
    | none =>
      obtain rfl := hcap rfl
      go_enter Try.func43, Try.ntmps43
      go_wp2_with fail
      go_ret
      exact ⟨_, rfl, World.ownsRow_nil _ _ _ _, Below.refl _ _⟩
    | some a =>
      go_enter Try.func43, Try.ntmps43
      go_wp2_with (at_builtin; refine wpList_append_own _ rfl (.tmp 5) (.tmp 6) 49 rfl w.heap.size 9 i0 (.string ByteArray.empty) 1 16 Try.underlying49 hi hz0 hz1 hz2 rfl (by decide) _ _ _ rfl hown0 a 0 cap [] rfl rfl (by simp) (by simp) (by simp) (by simp) (by simp) ?_)
      intro v' w1 hown hgrow _
      go_wp2_with fail
      go_ret
      exact ⟨_, rfl, hown, hB0.grown hgrow (by simp) (fun k hk => (hown0.lt k hk).1)⟩
  · have hc' : ∀ k, k < l.length → (w.alloc (.cells #[] 9)).cell? ⟨b, off + k, none⟩ = some (.string (at_ l k)) := fun k hk => (hB0.cell (p := ⟨b, off + k, none⟩) hb).trans (hc k hk)
    go_enter Try.func43, Try.ntmps43
    go_wp2_with (at_builtin; refine wpList_append_own _ rfl (.tmp 5) (.tmp 6) 49 rfl w.heap.size 9 i0 (.string ByteArray.empty) 1 16 Try.underlying49 hi hz0 hz1 hz2 rfl (by decide) _ _ _ rfl hown0 ⟨b, off, none⟩ l.length cap (l.map Value.string) rfl (by simp) (strs_at hc') (strs_one l) (by unfold maxLen; omega) (by omega) (by simp) ?_)
    intro v' w1 hown hgrow _
    go_wp2_with fail
    go_ret
    exact ⟨_, rfl, hown, hB0.grown hgrow (by simp) (fun k hk => (hown0.lt k hk).1)⟩

theorem enc_back (l : List ByteArray) : (l.map ByteArray.toList).map encStr = l.map Value.string := by
  rw [List.map_map]; apply List.map_congr_left; intro s _; show encStr s.toList = _; rw [enc_ofB, ofB_to]
/-- slices.Sort of a row of one's own -/
theorem sortS_own (g cap base : Nat) (l : List ByteArray) (w : World) (ho : Owns w base (.slice (some ⟨g, 0, none⟩) l.length cap) l) (hlen : l.length ≤ 1048576) :
    Calls Try.prog 44 #[.slice (some ⟨g, 0, none⟩) l.length cap] w fun e w' => e = .returned (.tuple #[]) ∧ w'.ownsRow base 9 1 (.slice (some ⟨g, 0, none⟩) l.length cap) l.length ((srtL l).map encStr) ∧ w.grownBy w' (some g) := by
  rcases ho.2 with ⟨hv, _⟩ | ⟨g', cap', cur, hv, hbase, hb, h1, h2, h3, h4⟩
  · cases hv
  · cases hv
    have hl : (l.map ByteArray.toList).length = l.length := by simp
    have hH : Sort.Holds encStr w g 0 (l.map ByteArray.toList).toArray := holds_of_block hb (by rw [hl, enc_back]; simpa using h4)
    have h := AnyM.slices_Sort_string Try.lSort g 0 cap (l.map ByteArray.toList) w hH (Array.getElem?_eq_some_iff.1 hb).1 (by rw [hl]; omega)
    rw [hl] at h
    refine Calls.mono h ?_
    rintro e w' ⟨rfl, n, os, rfl⟩
    refine ⟨rfl, ?_, grownBy_sorted _⟩
    have := ownsRow_sorted (w := w) (base := base) (g := g) (cap := cap) (n := n) (os := os) (ss := l.map ByteArray.toList) (ts := srtL l) (by rw [srtL_len, hl]) hbase hb (by rw [hl]; exact h1) h2 h3
    rw [hl] at this; exact this
theorem reads_front {w : World} {base g cap n : Nat} {xs : List Value} {c : List ByteArray} (h : w.ownsRow base 9 1 (.slice (some ⟨g, 0, none⟩) n cap) n xs) (r : List Value) (hx : xs = c.map Value.string ++ r) : Reads w (.slice (some ⟨g, 0, none⟩) c.length cap) c := by
  have hxs := h.1
  rcases h.2 with ⟨hv, _⟩ | ⟨g', cap', cur, hv, hbase, hb, h1, h2, h3, h4⟩
  · cases hv
  · cases hv
    have hcl : c.length ≤ n := by rw [hx] at hxs; simp at hxs; omega
    by_cases h0 : c.length = 0
    · rw [h0]; exact .inl ⟨List.length_eq_zero_iff.1 h0, _, _, rfl, fun e => by cases e⟩
    · refine .inr ⟨by omega, g, 0, cap, rfl, (Array.getElem?_eq_some_iff.1 hb).1, by omega, h2, fun k hk => ?_⟩
      rw [Nat.zero_add, h.cellAt k (by omega), hx, List.getElem?_append_left (by simpa using hk), List.getElem?_map, List.getElem?_eq_getElem hk, at_lt hk]; rfl
/-- slices.Compact of a row of one's own -/
theorem compactS_own (g cap base : Nat) (l : List ByteArray) (w : World) (ho : w.ownsRow base 9 1 (.slice (some ⟨g, 0, none⟩) l.length cap) l.length ((srtL l).map encStr)) (hlen : l.length ≤ 1048576) :
    Calls Try.prog 45 #[.slice (some ⟨g, 0, none⟩) l.length cap] w fun e w' => ∃ x, e = .returned x ∧ Reads w' x (cmpL l) ∧ w.grownBy w' (some g) := by
  rcases ho.2 with ⟨hv, _⟩ | ⟨g', cap', cur, hv, hbase, hb, h1, h2, h3, h4⟩
  · cases hv
  · cases hv
    have hl := srtL_len l
    have hH : Sort.Holds encStr w g 0 (srtL l).toArray := holds_of_block hb (by rw [hl]; simpa using h4)
    have h := AnyG.slices_Compact_string Try.lCompact g 0 cap (srtL l) w hH (by rw [hl]; omega) (by rw [hl]; exact h1)
    rw [hl] at h
    refine Calls.mono h ?_
    rintro e w' ⟨rfl, q, rfl⟩
    have hcl := Lib.compact_length_le (srtL l)
    have hts : (Lib.compact (srtL l) ++ List.replicate (l.length - (Lib.compact (srtL l)).length) ([] : List UInt8)).length = (srtL l).length := by simp; omega
    have hown := ownsRow_sorted (w := w) (base := base) (g := g) (cap := cap) (n := q) (os := #[]) hts hbase hb (by rw [hl]; exact h1) h2 h3
    have hgr := grownBy_sorted (w := w) (g := g) (n := q) (os := #[]) (Lib.compact (srtL l) ++ List.replicate (l.length - (Lib.compact (srtL l)).length) ([] : List UInt8)).toArray
    rw [Go.Sort.grow_empty] at hown hgr
    refine ⟨_, rfl, ?_, hgr⟩
    have e : (Lib.compact (srtL l)).length = (cmpL l).length := by unfold cmpL; simp
    have hfin := reads_front (c := cmpL l) hown _ (?_ : _ = (cmpL l).map Value.string ++ (List.replicate (l.length - (Lib.compact (srtL l)).length) ([] : List UInt8)).map encStr)
    · rw [← e] at hfin; exact hfin
    · rw [List.map_append]; congr 1
      unfold cmpL; rw [List.map_map]; rfl

set_option maxHeartbeats 4000000 in
theorem ascending_any (v : Value) (l : List ByteArray) (w : World) (hr : Reads w v l) (hlen : l.length ≤ 1048576) :
    Calls Try.prog 36 #[v] w fun e w' => ∃ x c, e = .returned x ∧ Reads w' x c ∧ Asc c ∧ (∀ s, s ∈ c ↔ s ∈ l) ∧ c.length ≤ l.length ∧ Below w.heap.size w w' := by
  go_enter Try.func36, Try.ntmps36
  go_wp2_with fail
  refine (cloneS_any _ l _ hr hlen).mono ?_
  rintro e w1 ⟨x1, rfl, ho1, hB1⟩
  by_cases h0 : l.length = 0
  · obtain ⟨ao, cap, rfl⟩ := reads_shape (owns_reads ho1)
    have hl0 : l = [] := List.length_eq_zero_iff.1 h0
    subst hl0
    go_wp2_with fail
    refine (AnyM.slices_Sort_string_none Try.lSort ao cap _).mono ?_
    rintro e w2 ⟨rfl, rfl⟩
    go_wp2_with fail
    refine (AnyG.slices_Compact_string_empty Try.lCompact ao cap _).mono ?_
    rintro e w3 ⟨rfl, rfl⟩
    go_wp2_with fail
    go_ret
    exact ⟨_, [], rfl, owns_reads ho1, by simp, fun _ => Iff.rfl, by simp, hB1⟩
  · obtain ⟨g, cap, rfl, hg⟩ : ∃ g cap, x1 = .slice (some ⟨g, 0, none⟩) l.length cap ∧ w.heap.size ≤ g := by
      rcases ho1.2 with ⟨_, hn⟩ | ⟨g, cap, cur, hv, hbase, _⟩
      · exact absurd hn h0
      · exact ⟨g, cap, hv, hbase⟩
    go_wp2_with fail
    refine (sortS_own g cap w.heap.size l _ ho1 hlen).mono ?_
    rintro e w2 ⟨rfl, ho2, hgr2⟩
    have hB2 := hB1.grown hgr2 hB1.size (fun k hk => by cases hk; exact hg)
    clear ho1 hgr2 hB1
    go_wp2_with fail
    refine (compactS_own g cap w.heap.size l _ ho2 hlen).mono ?_
    rintro e w3 ⟨x3, rfl, hr3, hgr3⟩
    have hB3 := hB2.grown hgr3 hB2.size (fun k hk => by cases hk; exact hg)
    clear ho2 hgr3 hB2
    obtain ⟨ao3, c3, rfl⟩ := reads_shape hr3
    go_wp2_with fail
    go_ret
    exact ⟨_, cmpL l, rfl, hr3, (cmp_facts l).1, (cmp_facts l).2, cmpL_len l, hB3⟩
end Go.Proofs.Ytndegickekjkjaa
