/- Any order is drawn: whatever comes is short. -/
import Derived.Test.YtfoflnolmlgnfaaDoorDrO
import Derived.Deep.Onto
namespace Go.Proofs.YtfoflnolmlgnfaaDoor
open Go.RowKit

theorem own_take {w : World} {B g cap k : Nat} {l : List ByteArray} (h : Owns w B (.slice (some ⟨g, 0, none⟩) l.length cap) l) (hk : k ≤ l.length) : Owns w B (.slice (some ⟨g, 0, none⟩) k cap) (l.take k) := by
  obtain ⟨_, h2⟩ := h
  rcases h2 with ⟨h0, _⟩ | ⟨g', cap', cur, hv, hg, hh, hn, hcap, hsz, htake⟩
  · cases h0
  · cases hv
    refine ⟨by simp, .inr ⟨g, cap, cur, by simp [hk], hg, hh, by simp; omega, hcap, hsz, ?_⟩⟩
    rw [List.map_take, ← htake, List.take_take]
    congr 1; simp
theorem own_cell0 {w : World} {B g cap : Nat} {l : List ByteArray} (h : Owns w B (.slice (some ⟨g, 0, none⟩) l.length cap) l) (hl : 1 ≤ l.length) : w.cell? ⟨g, 0, none⟩ = some (.string (l.headD ByteArray.empty)) := by
  match l, hl with
  | s :: l, _ => exact World.ownsRow.cells h rfl 0 (.string s) rfl
def more6 : List ByteArray := [⟨#[109, 111, 114, 101]⟩, ⟨#[109, 111, 114, 101]⟩, ⟨#[109, 111, 114, 101]⟩, ⟨#[109, 111, 114, 101]⟩, ⟨#[109, 111, 114, 101]⟩, ⟨#[109, 111, 114, 101]⟩]
theorem five_ways (x : Int) : x = 0 ∨ x = 1 ∨ x = 2 ∨ x = 3 ∨ ((x == 0) = false ∧ (x == 1) = false ∧ (x == 2) = false ∧ (x == 3) = false) := by
  by_cases h0 : x = 0
  · exact .inl h0
  · by_cases h1 : x = 1
    · exact .inr (.inl h1)
    · by_cases h2 : x = 2
      · exact .inr (.inr (.inl h2))
      · by_cases h3 : x = 3
        · exact .inr (.inr (.inr (.inl h3)))
        · exact .inr (.inr (.inr (.inr ⟨beq_eq_false_iff_ne.2 h0, beq_eq_false_iff_ne.2 h1, beq_eq_false_iff_ne.2 h2, beq_eq_false_iff_ne.2 h3⟩)))
theorem own_take' {w : World} {B g cap n k : Nat} {l : List ByteArray} (h : Owns w B (.slice (some ⟨g, 0, none⟩) n cap) l) (hn : l.length = n) (hk : k ≤ n) : Owns w B (.slice (some ⟨g, 0, none⟩) k cap) (l.take k) := by
  subst hn; exact own_take h hk
theorem lit_cells (w : World) (l : List ByteArray) : ∀ j u, (l.map Value.string)[j]? = some u → (w.alloc (.cells (l.map Value.string).toArray 9)).cell? ((⟨w.heap.size, 0, none⟩ : Addr).add j) = some u := by
  intro j u h
  have e : (⟨w.heap.size, 0, none⟩ : Addr).add j = ⟨w.heap.size, j, none⟩ := by unfold Addr.add; split <;> simp_all
  have := cell_of_row (w.alloc (.cells (l.map Value.string).toArray 9)) w.heap.size j _ _ _ (heap_alloc_new _ _)
  rw [e, this]; simpa using h
theorem own_row {w : World} {B n : Nat} {v : Value} {l : List ByteArray} (h : Owns w B v l) (hn : l.length = n) : w.ownsRow B 9 1 v n (l.map Value.string) := by subst hn; exact h
theorem row_own2 {w : World} {B n : Nat} {v : Value} {a b : List ByteArray} (h : w.ownsRow B 9 1 v n (a.map Value.string ++ b.map Value.string)) (hn : (a ++ b).length = n) : Owns w B v (a ++ b) := by
  subst hn; unfold Owns; rw [List.map_append]; exact h
theorem own_spot {w : World} {B g cap n : Nat} {l : List ByteArray} (h : Owns w B (.slice (some ⟨g, 0, none⟩) n cap) l) (hn : 1 ≤ n) : (∃ s, w.cell? ⟨g, 0, none⟩ = some (.string s)) ∧ w.frozen? ⟨g, 0, none⟩ = false := by
  rcases h.2 with ⟨h0, _⟩ | ⟨g', cap', cur, hv, hg, hh, hn2, _⟩
  · cases h0
  · cases hv
    refine ⟨?_, frozen_of_row w g 0 cur _ hh⟩
    match l, hn, h with
    | s :: l, _, h => exact ⟨s, World.ownsRow.cells h rfl 0 (.string s) rfl⟩
theorem own_stored {w : World} {B g cap n : Nat} {l : List ByteArray} (h : Owns w B (.slice (some ⟨g, 0, none⟩) n cap) l) (hn : l.length = n) (j : Nat) (s : ByteArray) : Owns (w.setCell ⟨g, j, none⟩ (.string s)) B (.slice (some ⟨g, 0, none⟩) n cap) (l.set j s) := by
  subst hn
  have := (World.ownsRow.stored h j (.string s)).1
  unfold Owns; rw [List.length_set, List.map_set]; exact this
theorem below_stored0 {w : World} {B g cap n : Nat} {l : List ByteArray} (h : Owns w B (.slice (some ⟨g, 0, none⟩) n cap) l) (hn : l.length = n) (hB : B ≤ w.heap.size) (j : Nat) (s : ByteArray) : Below B w (w.setCell ⟨g, j, none⟩ (.string s)) := by
  subst hn
  exact (Below.refl _ w).grown (World.ownsRow.stored h j (.string s)).2 hB (fun i hi => by cases hi; exact (World.ownsRow.lt h g rfl).1)
set_option maxRecDepth 100000 in
set_option maxHeartbeats 8000000 in
theorem anyOrder_any (r p : Nat) (v : Value) (zs : List Int) (w : World) (h : RdAt w r v zs p) (hp : p ≤ 70000) :
    Calls Tryd.prog 28 #[.pointer (some ⟨r, 0, none⟩)] w fun e w' => ∃ u l q, e = .returned u ∧ Owns w' w.heap.size u l ∧ l.length ≤ 14 ∧ RdAt w' r v zs q ∧ q ≤ p + 30 ∧ w.grownBy w' (some r) := by
  have hrl := rd_lt h
  go_enter Tryd.func28, Tryd.ntmps28
  go_wp2_with fail
  refine (order_any r p v zs w h (by omega)).mono ?_
  rintro e w1 ⟨u, m, q, rfl, ho1, ⟨hl1, hl8⟩, _, hR1, hq1, hG1⟩
  clear h
  rcases own_forms ho1 with ⟨rfl, rfl⟩ | ⟨g, c, rfl, hgl, hcells⟩
  · simp at hl1
  have hlc : m.length ≤ c := by
    rcases ho1.2 with ⟨h0, _⟩ | ⟨g', cap', cur, hv, _, _, hn, _⟩
    · cases h0
    · cases hv; exact hn
  have hc0 := own_cell0 ho1 hl1
  generalize hH : m.headD ByteArray.empty = H at hc0
  clear hcells
  obtain ⟨n, hn⟩ : ∃ n, m.length = n := ⟨_, rfl⟩
  have HLL : Hid (m.length = n) := hn
  rw [hn] at ho1 hl1 hl8 hlc ⊢
  clear hn
  cases h3 : ((n : Int) == 3) with
  | false =>
    go_wp2_with fail
    refine (pick_any r q v zs 24 _ hR1 (by omega) (by omega) (by omega)).mono ?_
    rintro e w5 ⟨x, rfl, hx0, hx1, hR5, hg5⟩
    have hO5 : Owns w5 w.heap.size (.slice (some ⟨g, 0, none⟩) n c) m := World.ownsRow.kept ho1 hg5 (own_ne_right ho1 hrl)
    have hG5 := grown_trans2 hG1 hg5
    clear hg5 ho1 hG1 hR1
    have hx := five_ways x
    clear hx0 hx1
    rcases hx with rfl | rfl | rfl | rfl | ⟨ha, hb, hc, hd⟩
    · go_wp2_with fail
      refine (pick_any r (q + 1) v zs _ _ hR5 (by omega) (by omega) (by omega)).mono ?_
      rintro e w6 ⟨y, rfl, hy0, hy1, hR6, hg6⟩
      obtain ⟨k, rfl⟩ := Int.eq_ofNat_of_zero_le hy0
      have hO6 : Owns w6 w.heap.size (.slice (some ⟨g, 0, none⟩) n c) m := World.ownsRow.kept hO5 hg6 (own_ne_right hO5 hrl)
      have hG6 := grown_trans2 hG5 hg6
      have hkc : k ≤ c := by omega
      have HO7 : Owns w6 w.heap.size (.slice (some ⟨g, 0, none⟩) k c) (m.take k) := own_take' hO6 HLL.out (by omega)
      have hlt : (m.take k).length ≤ 14 := by have := HLL.out; simp; omega
      clear hO6 hO5 hR5 hG5
      go_wp2_with fail
      go_ret
      exact ⟨_, _, q + 1 + 1, rfl, HO7, hlt, hR6, by omega, hG6⟩
    · obtain ⟨i0, hi, hz0, hz1, hz2⟩ := info_parts infoO
      have hGs := hG5.size
      have hO6 := World.ownsRow.alloc (own_row hO5 HLL.out) (.cells (more6.map Value.string).toArray 9)
      have hcells := lit_cells w5 more6
      have HCC : Hid (∀ j u, (more6.map Value.string)[j]? = some u → (w5.alloc (.cells (more6.map Value.string).toArray 9)).cell? ((⟨w5.heap.size, 0, none⟩ : Addr).add j) = some u) := hcells
      clear hcells
      have h14 : (m ++ more6).length = n + 6 := by rw [List.length_append, HLL.out]; rfl
      have H14 : Hid ((m ++ more6).length = n + 6) := h14
      clear h14
      go_wp2_with (at_builtin; refine wpList_append_own _ rfl (.tmp 40) (.tmp 41) 23 rfl w.heap.size 9 i0 (.string ByteArray.empty) 1 16 Tryd.underlying23 hi hz0 hz1 hz2 rfl (by decide) _ _ _ rfl hO6 ⟨w5.heap.size, 0, none⟩ 6 6 (more6.map Value.string) rfl (by rfl) HCC.out (strs_allO more6) (by unfold maxLen; omega) (by omega) (by simp; omega) ?_)
      intro x9 w9 hown9 hgrow9 _
      have ho9 : Owns w9 w.heap.size x9 (m ++ more6) := row_own2 (by exact hown9) H14.out
      have hB9 : Below w.heap.size (w5.alloc (.cells (more6.map Value.string).toArray 9)) w9 := (Below.refl _ _).grown hgrow9 (by simp; omega) (fun i hi => (World.ownsRow.lt hO6 i hi).1)
      have hR9 := rd_kept (rd_grown hR5 ((Below.refl _ w5).alloc (Nat.le_refl _) _)) hB9 hrl
      have hG9 := grown_base (grown_trans2 hG5 (World.grownBy_alloc w5 _ (some r))) hB9
      have hlt : (m ++ more6).length ≤ 14 := by rw [H14.out]; omega
      clear hown9 hgrow9 hO6 hO5
      go_wp2_with fail
      go_ret
      exact ⟨_, _, q + 1, rfl, ho9, hlt, hR9, by omega, hG9⟩
    · go_wp2_with fail
      refine (of_cells r (q + 1) v zs #[.string ⟨#[103, 101, 116]⟩, .string ⟨#[70, 76, 85, 83, 72]⟩, .string ⟨#[]⟩] 3 _ hR5 (by omega) (by rfl) (by decide) (by decide) (by repeat (first | exact trivial | refine ⟨by first | assumption | decide, ?_⟩))).mono ?_
      rintro e w6 ⟨s6, rfl, hs6, hR6, hg6⟩
      have hO6 : Owns w6 w.heap.size (.slice (some ⟨g, 0, none⟩) n c) m := World.ownsRow.kept hO5 hg6 (own_ne_right hO5 hrl)
      have hG6 := grown_trans2 hG5 hg6
      obtain ⟨⟨s0, hc6⟩, hf6⟩ := own_spot hO6 (by have := HLL.out; omega)
      have HO7 := own_stored hO6 HLL.out 0 s6
      have hB7 := below_stored0 hO6 HLL.out hG6.size 0 s6
      have hR7 := rd_kept hR6 hB7 hrl
      have hG7 := grown_base hG6 hB7
      have hlt : (m.set 0 s6).length ≤ 14 := by have := HLL.out; simp; omega
      clear hO6 hO5 hR5 hG5 hg6 hG6 hB7 hR6
      go_wp2_with fail
      go_ret
      exact ⟨_, _, q + 1 + 1, rfl, HO7, hlt, hR7, by omega, hG7⟩
    · go_wp2_with fail
      refine (of_cells r (q + 1) v zs #[.string ⟨#[68, 66, 83, 73, 90, 69]⟩, .string ⟨#[70, 76, 85, 83, 72]⟩] 2 _ hR5 (by omega) (by rfl) (by decide) (by decide) (by repeat (first | exact trivial | refine ⟨by first | assumption | decide, ?_⟩))).mono ?_
      rintro e w6 ⟨s6, rfl, hs6, hR6, hg6⟩
      have hG6 := grown_trans2 hG5 hg6
      go_wp2_with fail
      go_ret
      exact ⟨_, [s6], q + 1 + 1, rfl, own_litL w6 w.heap.size [s6] hG6.size, by simp, rd_grown hR6 ((Below.refl _ w6).alloc (Nat.le_refl _) _), by omega, grown_trans2 hG6 (World.grownBy_alloc w6 _ (some r))⟩
    · have hlt : m.length ≤ 14 := by rw [HLL.out]; omega
      have HO7 : Hid (Owns w5 w.heap.size (.slice (some ⟨g, 0, none⟩) n c) m) := hO5
      clear hO5
      go_wp2_with fail
      go_ret
      exact ⟨_, _, q + 1, rfl, HO7.out, hlt, hR5, by omega, hG5⟩
  | true =>
    go_wp2_with fail
    refine (pick_any r q v zs 2 _ hR1 (by omega) (by omega) (by omega)).mono ?_
    rintro e w2 ⟨y, rfl, hy0, hy1, hR2, hg2⟩
    have hO2 : Owns w2 w.heap.size (.slice (some ⟨g, 0, none⟩) n c) m := World.ownsRow.kept ho1 hg2 (own_ne_right ho1 hrl)
    have hG2 := grown_trans2 hG1 hg2
    have hc2 : w2.cell? ⟨g, 0, none⟩ = some (.string H) := by
      rw [← hH]; have := HLL.out; subst this; exact own_cell0 hO2 hl1
    clear hc0 hg2 hR1 hG1 ho1 hH
    have hyy : (y == 0) = false ∨ ((y == 0) = true ∧ (H.toList == [68, 66, 83, 73, 90, 69]) = true) ∨ ((y == 0) = true ∧ (H.toList == [68, 66, 83, 73, 90, 69]) = false ∧ (H.toList == [70, 76, 85, 83, 72]) = true) ∨ ((y == 0) = true ∧ (H.toList == [68, 66, 83, 73, 90, 69]) = false ∧ (H.toList == [70, 76, 85, 83, 72]) = false) := by
      cases (y == 0) <;> cases (H.toList == [68, 66, 83, 73, 90, 69]) <;> cases (H.toList == [70, 76, 85, 83, 72]) <;> simp
    clear hy0 hy1
    rcases hyy with hy | ⟨hy, he⟩ | ⟨hy, he, hf⟩ | ⟨hy, he, hf⟩
    · clear hc2
      go_wp2_with fail
      refine (pick_any r (q + 1) v zs 24 _ hR2 (by omega) (by omega) (by omega)).mono ?_
      rintro e w5 ⟨x, rfl, hx0, hx1, hR5, hg5⟩
      have hO5 : Owns w5 w.heap.size (.slice (some ⟨g, 0, none⟩) n c) m := World.ownsRow.kept hO2 hg5 (own_ne_right hO2 hrl)
      have hG5 := grown_trans2 hG2 hg5
      clear hg5 hO2 hG2 hR2
      have hx := five_ways x
      clear hx0 hx1
      rcases hx with rfl | rfl | rfl | rfl | ⟨ha, hb, hc, hd⟩
      · go_wp2_with fail
        refine (pick_any r ((q + 1) + 1) v zs _ _ hR5 (by omega) (by omega) (by omega)).mono ?_
        rintro e w6 ⟨y, rfl, hy0, hy1, hR6, hg6⟩
        obtain ⟨k, rfl⟩ := Int.eq_ofNat_of_zero_le hy0
        have hO6 : Owns w6 w.heap.size (.slice (some ⟨g, 0, none⟩) n c) m := World.ownsRow.kept hO5 hg6 (own_ne_right hO5 hrl)
        have hG6 := grown_trans2 hG5 hg6
        have hkc : k ≤ c := by omega
        have HO7 : Owns w6 w.heap.size (.slice (some ⟨g, 0, none⟩) k c) (m.take k) := own_take' hO6 HLL.out (by omega)
        have hlt : (m.take k).length ≤ 14 := by have := HLL.out; simp; omega
        clear hO6 hO5 hR5 hG5
        go_wp2_with fail
        go_ret
        exact ⟨_, _, (q + 1) + 1 + 1, rfl, HO7, hlt, hR6, by omega, hG6⟩
      · obtain ⟨i0, hi, hz0, hz1, hz2⟩ := info_parts infoO
        have hGs := hG5.size
        have hO6 := World.ownsRow.alloc (own_row hO5 HLL.out) (.cells (more6.map Value.string).toArray 9)
        have hcells := lit_cells w5 more6
        have HCC : Hid (∀ j u, (more6.map Value.string)[j]? = some u → (w5.alloc (.cells (more6.map Value.string).toArray 9)).cell? ((⟨w5.heap.size, 0, none⟩ : Addr).add j) = some u) := hcells
        clear hcells
        have h14 : (m ++ more6).length = n + 6 := by rw [List.length_append, HLL.out]; rfl
        have H14 : Hid ((m ++ more6).length = n + 6) := h14
        clear h14
        go_wp2_with (at_builtin; refine wpList_append_own _ rfl (.tmp 40) (.tmp 41) 23 rfl w.heap.size 9 i0 (.string ByteArray.empty) 1 16 Tryd.underlying23 hi hz0 hz1 hz2 rfl (by decide) _ _ _ rfl hO6 ⟨w5.heap.size, 0, none⟩ 6 6 (more6.map Value.string) rfl (by rfl) HCC.out (strs_allO more6) (by unfold maxLen; omega) (by omega) (by simp; omega) ?_)
        intro x9 w9 hown9 hgrow9 _
        have ho9 : Owns w9 w.heap.size x9 (m ++ more6) := row_own2 (by exact hown9) H14.out
        have hB9 : Below w.heap.size (w5.alloc (.cells (more6.map Value.string).toArray 9)) w9 := (Below.refl _ _).grown hgrow9 (by simp; omega) (fun i hi => (World.ownsRow.lt hO6 i hi).1)
        have hR9 := rd_kept (rd_grown hR5 ((Below.refl _ w5).alloc (Nat.le_refl _) _)) hB9 hrl
        have hG9 := grown_base (grown_trans2 hG5 (World.grownBy_alloc w5 _ (some r))) hB9
        have hlt : (m ++ more6).length ≤ 14 := by rw [H14.out]; omega
        clear hown9 hgrow9 hO6 hO5
        go_wp2_with fail
        go_ret
        exact ⟨_, _, (q + 1) + 1, rfl, ho9, hlt, hR9, by omega, hG9⟩
      · go_wp2_with fail
        refine (of_cells r ((q + 1) + 1) v zs #[.string ⟨#[103, 101, 116]⟩, .string ⟨#[70, 76, 85, 83, 72]⟩, .string ⟨#[]⟩] 3 _ hR5 (by omega) (by rfl) (by decide) (by decide) (by repeat (first | exact trivial | refine ⟨by first | assumption | decide, ?_⟩))).mono ?_
        rintro e w6 ⟨s6, rfl, hs6, hR6, hg6⟩
        have hO6 : Owns w6 w.heap.size (.slice (some ⟨g, 0, none⟩) n c) m := World.ownsRow.kept hO5 hg6 (own_ne_right hO5 hrl)
        have hG6 := grown_trans2 hG5 hg6
        obtain ⟨⟨s0, hc6⟩, hf6⟩ := own_spot hO6 (by have := HLL.out; omega)
        have HO7 := own_stored hO6 HLL.out 0 s6
        have hB7 := below_stored0 hO6 HLL.out hG6.size 0 s6
        have hR7 := rd_kept hR6 hB7 hrl
        have hG7 := grown_base hG6 hB7
        have hlt : (m.set 0 s6).length ≤ 14 := by have := HLL.out; simp; omega
        clear hO6 hO5 hR5 hG5 hg6 hG6 hB7 hR6
        go_wp2_with fail
        go_ret
        exact ⟨_, _, (q + 1) + 1 + 1, rfl, HO7, hlt, hR7, by omega, hG7⟩
      · go_wp2_with fail
        refine (of_cells r ((q + 1) + 1) v zs #[.string ⟨#[68, 66, 83, 73, 90, 69]⟩, .string ⟨#[70, 76, 85, 83, 72]⟩] 2 _ hR5 (by omega) (by rfl) (by decide) (by decide) (by repeat (first | exact trivial | refine ⟨by first | assumption | decide, ?_⟩))).mono ?_
        rintro e w6 ⟨s6, rfl, hs6, hR6, hg6⟩
        have hG6 := grown_trans2 hG5 hg6
        go_wp2_with fail
        go_ret
        exact ⟨_, [s6], (q + 1) + 1 + 1, rfl, own_litL w6 w.heap.size [s6] hG6.size, by simp, rd_grown hR6 ((Below.refl _ w6).alloc (Nat.le_refl _) _), by omega, grown_trans2 hG6 (World.grownBy_alloc w6 _ (some r))⟩
      · have hlt : m.length ≤ 14 := by rw [HLL.out]; omega
        have HO7 : Hid (Owns w5 w.heap.size (.slice (some ⟨g, 0, none⟩) n c) m) := hO5
        clear hO5
        go_wp2_with fail
        go_ret
        exact ⟨_, _, (q + 1) + 1, rfl, HO7.out, hlt, hR5, by omega, hG5⟩
    · have hO3 : Owns w2 w.heap.size (.slice (some ⟨g, 0, none⟩) 1 c) (m.take 1) := own_take' hO2 HLL.out hl1
      have hc1 : 1 ≤ c := by omega
      have HL1 : Hid ((m.take 1).length = 1) := by have := HLL.out; show _ = _; simp; omega
      clear HLL hO2
      generalize m.take 1 = m at *
      have HLL := HL1
      go_wp2_with fail
      go_wp2_with fail
      refine (pick_any r (q + 1) v zs 24 _ hR2 (by omega) (by omega) (by omega)).mono ?_
      rintro e w5 ⟨x, rfl, hx0, hx1, hR5, hg5⟩
      have hO5 : Owns w5 w.heap.size (.slice (some ⟨g, 0, none⟩) 1 c) m := World.ownsRow.kept hO3 hg5 (own_ne_right hO3 hrl)
      have hG5 := grown_trans2 hG2 hg5
      clear hg5 hO3 hG2 hR2
      have hx := five_ways x
      clear hx0 hx1
      rcases hx with rfl | rfl | rfl | rfl | ⟨ha, hb, hc, hd⟩
      · go_wp2_with fail
        refine (pick_any r ((q + 1) + 1) v zs _ _ hR5 (by omega) (by omega) (by omega)).mono ?_
        rintro e w6 ⟨y, rfl, hy0, hy1, hR6, hg6⟩
        obtain ⟨k, rfl⟩ := Int.eq_ofNat_of_zero_le hy0
        have hO6 : Owns w6 w.heap.size (.slice (some ⟨g, 0, none⟩) 1 c) m := World.ownsRow.kept hO5 hg6 (own_ne_right hO5 hrl)
        have hG6 := grown_trans2 hG5 hg6
        have hkc : k ≤ c := by omega
        have HO7 : Owns w6 w.heap.size (.slice (some ⟨g, 0, none⟩) k c) (m.take k) := own_take' hO6 HLL.out (by omega)
        have hlt : (m.take k).length ≤ 14 := by have := HLL.out; simp; omega
        clear hO6 hO5 hR5 hG5
        go_wp2_with fail
        go_ret
        exact ⟨_, _, (q + 1) + 1 + 1, rfl, HO7, hlt, hR6, by omega, hG6⟩
      · obtain ⟨i0, hi, hz0, hz1, hz2⟩ := info_parts infoO
        have hGs := hG5.size
        have hO6 := World.ownsRow.alloc (own_row hO5 HLL.out) (.cells (more6.map Value.string).toArray 9)
        have hcells := lit_cells w5 more6
        have HCC : Hid (∀ j u, (more6.map Value.string)[j]? = some u → (w5.alloc (.cells (more6.map Value.string).toArray 9)).cell? ((⟨w5.heap.size, 0, none⟩ : Addr).add j) = some u) := hcells
        clear hcells
        have h14 : (m ++ more6).length = 1 + 6 := by rw [List.length_append, HLL.out]; rfl
        have H14 : Hid ((m ++ more6).length = 1 + 6) := h14
        clear h14
        go_wp2_with (at_builtin; refine wpList_append_own _ rfl (.tmp 40) (.tmp 41) 23 rfl w.heap.size 9 i0 (.string ByteArray.empty) 1 16 Tryd.underlying23 hi hz0 hz1 hz2 rfl (by decide) _ _ _ rfl hO6 ⟨w5.heap.size, 0, none⟩ 6 6 (more6.map Value.string) rfl (by rfl) HCC.out (strs_allO more6) (by unfold maxLen; omega) (by omega) (by simp; omega) ?_)
        intro x9 w9 hown9 hgrow9 _
        have ho9 : Owns w9 w.heap.size x9 (m ++ more6) := row_own2 (by exact hown9) H14.out
        have hB9 : Below w.heap.size (w5.alloc (.cells (more6.map Value.string).toArray 9)) w9 := (Below.refl _ _).grown hgrow9 (by simp; omega) (fun i hi => (World.ownsRow.lt hO6 i hi).1)
        have hR9 := rd_kept (rd_grown hR5 ((Below.refl _ w5).alloc (Nat.le_refl _) _)) hB9 hrl
        have hG9 := grown_base (grown_trans2 hG5 (World.grownBy_alloc w5 _ (some r))) hB9
        have hlt : (m ++ more6).length ≤ 14 := by rw [H14.out]; omega
        clear hown9 hgrow9 hO6 hO5
        go_wp2_with fail
        go_ret
        exact ⟨_, _, (q + 1) + 1, rfl, ho9, hlt, hR9, by omega, hG9⟩
      · go_wp2_with fail
        refine (of_cells r ((q + 1) + 1) v zs #[.string ⟨#[103, 101, 116]⟩, .string ⟨#[70, 76, 85, 83, 72]⟩, .string ⟨#[]⟩] 3 _ hR5 (by omega) (by rfl) (by decide) (by decide) (by repeat (first | exact trivial | refine ⟨by first | assumption | decide, ?_⟩))).mono ?_
        rintro e w6 ⟨s6, rfl, hs6, hR6, hg6⟩
        have hO6 : Owns w6 w.heap.size (.slice (some ⟨g, 0, none⟩) 1 c) m := World.ownsRow.kept hO5 hg6 (own_ne_right hO5 hrl)
        have hG6 := grown_trans2 hG5 hg6
        obtain ⟨⟨s0, hc6⟩, hf6⟩ := own_spot hO6 (by have := HLL.out; omega)
        have HO7 := own_stored hO6 HLL.out 0 s6
        have hB7 := below_stored0 hO6 HLL.out hG6.size 0 s6
        have hR7 := rd_kept hR6 hB7 hrl
        have hG7 := grown_base hG6 hB7
        have hlt : (m.set 0 s6).length ≤ 14 := by have := HLL.out; simp; omega
        clear hO6 hO5 hR5 hG5 hg6 hG6 hB7 hR6
        go_wp2_with fail
        go_ret
        exact ⟨_, _, (q + 1) + 1 + 1, rfl, HO7, hlt, hR7, by omega, hG7⟩
      · go_wp2_with fail
        refine (of_cells r ((q + 1) + 1) v zs #[.string ⟨#[68, 66, 83, 73, 90, 69]⟩, .string ⟨#[70, 76, 85, 83, 72]⟩] 2 _ hR5 (by omega) (by rfl) (by decide) (by decide) (by repeat (first | exact trivial | refine ⟨by first | assumption | decide, ?_⟩))).mono ?_
        rintro e w6 ⟨s6, rfl, hs6, hR6, hg6⟩
        have hG6 := grown_trans2 hG5 hg6
        go_wp2_with fail
        go_ret
        exact ⟨_, [s6], (q + 1) + 1 + 1, rfl, own_litL w6 w.heap.size [s6] hG6.size, by simp, rd_grown hR6 ((Below.refl _ w6).alloc (Nat.le_refl _) _), by omega, grown_trans2 hG6 (World.grownBy_alloc w6 _ (some r))⟩
      · have hlt : m.length ≤ 14 := by rw [HLL.out]; omega
        have HO7 : Hid (Owns w5 w.heap.size (.slice (some ⟨g, 0, none⟩) 1 c) m) := hO5
        clear hO5
        go_wp2_with fail
        go_ret
        exact ⟨_, _, (q + 1) + 1, rfl, HO7.out, hlt, hR5, by omega, hG5⟩
    · have hO3 : Owns w2 w.heap.size (.slice (some ⟨g, 0, none⟩) 1 c) (m.take 1) := own_take' hO2 HLL.out hl1
      have hc1 : 1 ≤ c := by omega
      have HL1 : Hid ((m.take 1).length = 1) := by have := HLL.out; show _ = _; simp; omega
      clear HLL hO2
      generalize m.take 1 = m at *
      have HLL := HL1
      go_wp2_with fail
      go_wp2_with fail
      refine (pick_any r (q + 1) v zs 24 _ hR2 (by omega) (by omega) (by omega)).mono ?_
      rintro e w5 ⟨x, rfl, hx0, hx1, hR5, hg5⟩
      have hO5 : Owns w5 w.heap.size (.slice (some ⟨g, 0, none⟩) 1 c) m := World.ownsRow.kept hO3 hg5 (own_ne_right hO3 hrl)
      have hG5 := grown_trans2 hG2 hg5
      clear hg5 hO3 hG2 hR2
      have hx := five_ways x
      clear hx0 hx1
      rcases hx with rfl | rfl | rfl | rfl | ⟨ha, hb, hc, hd⟩
      · go_wp2_with fail
        refine (pick_any r ((q + 1) + 1) v zs _ _ hR5 (by omega) (by omega) (by omega)).mono ?_
        rintro e w6 ⟨y, rfl, hy0, hy1, hR6, hg6⟩
        obtain ⟨k, rfl⟩ := Int.eq_ofNat_of_zero_le hy0
        have hO6 : Owns w6 w.heap.size (.slice (some ⟨g, 0, none⟩) 1 c) m := World.ownsRow.kept hO5 hg6 (own_ne_right hO5 hrl)
        have hG6 := grown_trans2 hG5 hg6
        have hkc : k ≤ c := by omega
        have HO7 : Owns w6 w.heap.size (.slice (some ⟨g, 0, none⟩) k c) (m.take k) := own_take' hO6 HLL.out (by omega)
        have hlt : (m.take k).length ≤ 14 := by have := HLL.out; simp; omega
        clear hO6 hO5 hR5 hG5
        go_wp2_with fail
        go_ret
        exact ⟨_, _, (q + 1) + 1 + 1, rfl, HO7, hlt, hR6, by omega, hG6⟩
      · obtain ⟨i0, hi, hz0, hz1, hz2⟩ := info_parts infoO
        have hGs := hG5.size
        have hO6 := World.ownsRow.alloc (own_row hO5 HLL.out) (.cells (more6.map Value.string).toArray 9)
        have hcells := lit_cells w5 more6
        have HCC : Hid (∀ j u, (more6.map Value.string)[j]? = some u → (w5.alloc (.cells (more6.map Value.string).toArray 9)).cell? ((⟨w5.heap.size, 0, none⟩ : Addr).add j) = some u) := hcells
        clear hcells
        have h14 : (m ++ more6).length = 1 + 6 := by rw [List.length_append, HLL.out]; rfl
        have H14 : Hid ((m ++ more6).length = 1 + 6) := h14
        clear h14
        go_wp2_with (at_builtin; refine wpList_append_own _ rfl (.tmp 40) (.tmp 41) 23 rfl w.heap.size 9 i0 (.string ByteArray.empty) 1 16 Tryd.underlying23 hi hz0 hz1 hz2 rfl (by decide) _ _ _ rfl hO6 ⟨w5.heap.size, 0, none⟩ 6 6 (more6.map Value.string) rfl (by rfl) HCC.out (strs_allO more6) (by unfold maxLen; omega) (by omega) (by simp; omega) ?_)
        intro x9 w9 hown9 hgrow9 _
        have ho9 : Owns w9 w.heap.size x9 (m ++ more6) := row_own2 (by exact hown9) H14.out
        have hB9 : Below w.heap.size (w5.alloc (.cells (more6.map Value.string).toArray 9)) w9 := (Below.refl _ _).grown hgrow9 (by simp; omega) (fun i hi => (World.ownsRow.lt hO6 i hi).1)
        have hR9 := rd_kept (rd_grown hR5 ((Below.refl _ w5).alloc (Nat.le_refl _) _)) hB9 hrl
        have hG9 := grown_base (grown_trans2 hG5 (World.grownBy_alloc w5 _ (some r))) hB9
        have hlt : (m ++ more6).length ≤ 14 := by rw [H14.out]; omega
        clear hown9 hgrow9 hO6 hO5
        go_wp2_with fail
        go_ret
        exact ⟨_, _, (q + 1) + 1, rfl, ho9, hlt, hR9, by omega, hG9⟩
      · go_wp2_with fail
        refine (of_cells r ((q + 1) + 1) v zs #[.string ⟨#[103, 101, 116]⟩, .string ⟨#[70, 76, 85, 83, 72]⟩, .string ⟨#[]⟩] 3 _ hR5 (by omega) (by rfl) (by decide) (by decide) (by repeat (first | exact trivial | refine ⟨by first | assumption | decide, ?_⟩))).mono ?_
        rintro e w6 ⟨s6, rfl, hs6, hR6, hg6⟩
        have hO6 : Owns w6 w.heap.size (.slice (some ⟨g, 0, none⟩) 1 c) m := World.ownsRow.kept hO5 hg6 (own_ne_right hO5 hrl)
        have hG6 := grown_trans2 hG5 hg6
        obtain ⟨⟨s0, hc6⟩, hf6⟩ := own_spot hO6 (by have := HLL.out; omega)
        have HO7 := own_stored hO6 HLL.out 0 s6
        have hB7 := below_stored0 hO6 HLL.out hG6.size 0 s6
        have hR7 := rd_kept hR6 hB7 hrl
        have hG7 := grown_base hG6 hB7
        have hlt : (m.set 0 s6).length ≤ 14 := by have := HLL.out; simp; omega
        clear hO6 hO5 hR5 hG5 hg6 hG6 hB7 hR6
        go_wp2_with fail
        go_ret
        exact ⟨_, _, (q + 1) + 1 + 1, rfl, HO7, hlt, hR7, by omega, hG7⟩
      · go_wp2_with fail
        refine (of_cells r ((q + 1) + 1) v zs #[.string ⟨#[68, 66, 83, 73, 90, 69]⟩, .string ⟨#[70, 76, 85, 83, 72]⟩] 2 _ hR5 (by omega) (by rfl) (by decide) (by decide) (by repeat (first | exact trivial | refine ⟨by first | assumption | decide, ?_⟩))).mono ?_
        rintro e w6 ⟨s6, rfl, hs6, hR6, hg6⟩
        have hG6 := grown_trans2 hG5 hg6
        go_wp2_with fail
        go_ret
        exact ⟨_, [s6], (q + 1) + 1 + 1, rfl, own_litL w6 w.heap.size [s6] hG6.size, by simp, rd_grown hR6 ((Below.refl _ w6).alloc (Nat.le_refl _) _), by omega, grown_trans2 hG6 (World.grownBy_alloc w6 _ (some r))⟩
      · have hlt : m.length ≤ 14 := by rw [HLL.out]; omega
        have HO7 : Hid (Owns w5 w.heap.size (.slice (some ⟨g, 0, none⟩) 1 c) m) := hO5
        clear hO5
        go_wp2_with fail
        go_ret
        exact ⟨_, _, (q + 1) + 1, rfl, HO7.out, hlt, hR5, by omega, hG5⟩
    · go_wp2_with fail
      go_wp2_with fail
      refine (pick_any r (q + 1) v zs 24 _ hR2 (by omega) (by omega) (by omega)).mono ?_
      rintro e w5 ⟨x, rfl, hx0, hx1, hR5, hg5⟩
      have hO5 : Owns w5 w.heap.size (.slice (some ⟨g, 0, none⟩) n c) m := World.ownsRow.kept hO2 hg5 (own_ne_right hO2 hrl)
      have hG5 := grown_trans2 hG2 hg5
      clear hg5 hO2 hG2 hR2
      have hx := five_ways x
      clear hx0 hx1
      rcases hx with rfl | rfl | rfl | rfl | ⟨ha, hb, hc, hd⟩
      · go_wp2_with fail
        refine (pick_any r ((q + 1) + 1) v zs _ _ hR5 (by omega) (by omega) (by omega)).mono ?_
        rintro e w6 ⟨y, rfl, hy0, hy1, hR6, hg6⟩
        obtain ⟨k, rfl⟩ := Int.eq_ofNat_of_zero_le hy0
        have hO6 : Owns w6 w.heap.size (.slice (some ⟨g, 0, none⟩) n c) m := World.ownsRow.kept hO5 hg6 (own_ne_right hO5 hrl)
        have hG6 := grown_trans2 hG5 hg6
        have hkc : k ≤ c := by omega
        have HO7 : Owns w6 w.heap.size (.slice (some ⟨g, 0, none⟩) k c) (m.take k) := own_take' hO6 HLL.out (by omega)
        have hlt : (m.take k).length ≤ 14 := by have := HLL.out; simp; omega
        clear hO6 hO5 hR5 hG5
        go_wp2_with fail
        go_ret
        exact ⟨_, _, (q + 1) + 1 + 1, rfl, HO7, hlt, hR6, by omega, hG6⟩
      · obtain ⟨i0, hi, hz0, hz1, hz2⟩ := info_parts infoO
        have hGs := hG5.size
        have hO6 := World.ownsRow.alloc (own_row hO5 HLL.out) (.cells (more6.map Value.string).toArray 9)
        have hcells := lit_cells w5 more6
        have HCC : Hid (∀ j u, (more6.map Value.string)[j]? = some u → (w5.alloc (.cells (more6.map Value.string).toArray 9)).cell? ((⟨w5.heap.size, 0, none⟩ : Addr).add j) = some u) := hcells
        clear hcells
        have h14 : (m ++ more6).length = n + 6 := by rw [List.length_append, HLL.out]; rfl
        have H14 : Hid ((m ++ more6).length = n + 6) := h14
        clear h14
        go_wp2_with (at_builtin; refine wpList_append_own _ rfl (.tmp 40) (.tmp 41) 23 rfl w.heap.size 9 i0 (.string ByteArray.empty) 1 16 Tryd.underlying23 hi hz0 hz1 hz2 rfl (by decide) _ _ _ rfl hO6 ⟨w5.heap.size, 0, none⟩ 6 6 (more6.map Value.string) rfl (by rfl) HCC.out (strs_allO more6) (by unfold maxLen; omega) (by omega) (by simp; omega) ?_)
        intro x9 w9 hown9 hgrow9 _
        have ho9 : Owns w9 w.heap.size x9 (m ++ more6) := row_own2 (by exact hown9) H14.out
        have hB9 : Below w.heap.size (w5.alloc (.cells (more6.map Value.string).toArray 9)) w9 := (Below.refl _ _).grown hgrow9 (by simp; omega) (fun i hi => (World.ownsRow.lt hO6 i hi).1)
        have hR9 := rd_kept (rd_grown hR5 ((Below.refl _ w5).alloc (Nat.le_refl _) _)) hB9 hrl
        have hG9 := grown_base (grown_trans2 hG5 (World.grownBy_alloc w5 _ (some r))) hB9
        have hlt : (m ++ more6).length ≤ 14 := by rw [H14.out]; omega
        clear hown9 hgrow9 hO6 hO5
        go_wp2_with fail
        go_ret
        exact ⟨_, _, (q + 1) + 1, rfl, ho9, hlt, hR9, by omega, hG9⟩
      · go_wp2_with fail
        refine (of_cells r ((q + 1) + 1) v zs #[.string ⟨#[103, 101, 116]⟩, .string ⟨#[70, 76, 85, 83, 72]⟩, .string ⟨#[]⟩] 3 _ hR5 (by omega) (by rfl) (by decide) (by decide) (by repeat (first | exact trivial | refine ⟨by first | assumption | decide, ?_⟩))).mono ?_
        rintro e w6 ⟨s6, rfl, hs6, hR6, hg6⟩
        have hO6 : Owns w6 w.heap.size (.slice (some ⟨g, 0, none⟩) n c) m := World.ownsRow.kept hO5 hg6 (own_ne_right hO5 hrl)
        have hG6 := grown_trans2 hG5 hg6
        obtain ⟨⟨s0, hc6⟩, hf6⟩ := own_spot hO6 (by have := HLL.out; omega)
        have HO7 := own_stored hO6 HLL.out 0 s6
        have hB7 := below_stored0 hO6 HLL.out hG6.size 0 s6
        have hR7 := rd_kept hR6 hB7 hrl
        have hG7 := grown_base hG6 hB7
        have hlt : (m.set 0 s6).length ≤ 14 := by have := HLL.out; simp; omega
        clear hO6 hO5 hR5 hG5 hg6 hG6 hB7 hR6
        go_wp2_with fail
        go_ret
        exact ⟨_, _, (q + 1) + 1 + 1, rfl, HO7, hlt, hR7, by omega, hG7⟩
      · go_wp2_with fail
        refine (of_cells r ((q + 1) + 1) v zs #[.string ⟨#[68, 66, 83, 73, 90, 69]⟩, .string ⟨#[70, 76, 85, 83, 72]⟩] 2 _ hR5 (by omega) (by rfl) (by decide) (by decide) (by repeat (first | exact trivial | refine ⟨by first | assumption | decide, ?_⟩))).mono ?_
        rintro e w6 ⟨s6, rfl, hs6, hR6, hg6⟩
        have hG6 := grown_trans2 hG5 hg6
        go_wp2_with fail
        go_ret
        exact ⟨_, [s6], (q + 1) + 1 + 1, rfl, own_litL w6 w.heap.size [s6] hG6.size, by simp, rd_grown hR6 ((Below.refl _ w6).alloc (Nat.le_refl _) _), by omega, grown_trans2 hG6 (World.grownBy_alloc w6 _ (some r))⟩
      · have hlt : m.length ≤ 14 := by rw [HLL.out]; omega
        have HO7 : Hid (Owns w5 w.heap.size (.slice (some ⟨g, 0, none⟩) n c) m) := hO5
        clear hO5
        go_wp2_with fail
        go_ret
        exact ⟨_, _, (q + 1) + 1, rfl, HO7.out, hlt, hR5, by omega, hG5⟩
set_option maxHeartbeats 1000000 in
theorem drawPut_any (v : Value) (zs : List Int) (w : World) (h : IsBytes w v zs) :
    Calls Tryd.prog 9 #[v] w fun e w' => ∃ u l, e = .returned u ∧ Owns w' w.heap.size u l ∧ l.length ≤ 14 ∧ Below w.heap.size w w' := by
  go_enter Tryd.func9, Tryd.ntmps9
  go_wp2_with fail
  refine (open_any v zs _ h).mono ?_
  rintro e w1 ⟨rfl, ⟨v1, zs1, hR1⟩, _, hB1⟩
  go_wp2_with fail
  refine (anyOrder_any _ 0 v1 zs1 _ hR1 (by omega)).mono ?_
  rintro e w2 ⟨u2, l2, q2, rfl, ho2, hl2, hR2, hq2, hg2⟩
  have hB2 := below_rd hB1 hg2
  go_wp2_with fail
  go_ret
  exact ⟨_, _, rfl, World.ownsRow.mono ho2 hB1.size, hl2, hB2⟩
end Go.Proofs.YtfoflnolmlgnfaaDoor
