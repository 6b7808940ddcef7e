/- Draws: a list, a count and a text. -/
import Derived.Test.YtjgnfneondlhhaaDrawC
import Derived.Deep.RegionWith
namespace Go.Proofs.Ytjgnfneondlhhaa
open Go.RowKit

theorem own_atE {w : World} {base g cap : Nat} {M : List ByteArray} (ho : Owns w base (.slice (some ⟨g, 0, none⟩) M.length cap) M) (h : 0 < M.length) : w.cell? ⟨g, 0, none⟩ = some (.string (at_ M 0)) := by
  rw [World.ownsRow.cellAt ho 0 (by omega), List.getElem?_map, List.getElem?_eq_getElem h, at_lt h]; rfl
theorem twoE_bd {s : Int} (h : s ∈ [0, 1, -1, 2, -2]) : -2 ≤ s ∧ s ≤ 2 := by
  simp only [List.mem_cons, List.not_mem_nil, or_false] at h; omega
theorem twoE_bd3 {s : Int} (h : s ∈ [0, 1, -1, 2]) : -2 ≤ s ∧ s ≤ 2 := by
  simp only [List.mem_cons, List.not_mem_nil, or_false] at h; omega
theorem grown_drewK (w : World) (k : Nat) (r : Option Nat) : w.grownBy (w.drewN k) r := ⟨rfl, rfl, rfl, Nat.le_refl _, fun _ _ _ => rfl⟩
theorem one_lit (W : World) (r p : Nat) (v : Value) (zs : List Int) (L : List Int) (k : Nat) (h : RdAt W r v zs p) (hp : p ≤ 100000) (h0 : 0 < L.length) (hL : L.length ≤ 1000) :
    Calls Try.prog 64 #[.pointer (some ⟨r, 0, none⟩), .slice (some ⟨W.heap.size, 0, none⟩) L.length L.length] ((W.alloc (.cells (L.map (Value.int .i64)).toArray 3)).drewN k) fun e w' => ∃ s, e = .returned (.int .i64 s) ∧ s ∈ L ∧ RdAt w' r v zs (p + 1) ∧ W.grownBy w' (some r) := by
  have hrl := rd_lt h
  have hB := (Below.refl W.heap.size W).alloc (Nat.le_refl _) (.cells (L.map (Value.int .i64)).toArray 3)
  have hR := rd_grown h hB
  have hR2 : RdAt ((W.alloc (.cells (L.map (Value.int .i64)).toArray 3)).drewN k) r v zs p := hR
  have ho : (W.alloc (.cells (L.map (Value.int .i64)).toArray 3)).ownsRow W.heap.size 3 1 (.slice (some ⟨W.heap.size, 0, none⟩) L.length L.length) L.length (L.map (Value.int .i64)) := by
    have := World.ownsRow_lit (base := W.heap.size) (e := 3) (size := 1) W (L.map (Value.int .i64)).toArray L.length (Nat.le_refl _) (by unfold maxLen; omega) (by simp)
    simpa using this
  have hg := grown_drewK (W.alloc (.cells (L.map (Value.int .i64)).toArray 3)) k (some r)
  have ho2 := ho.kept hg (.inr (by simp [Value.ownBlock]; omega))
  refine (one_any r p v zs L W.heap.size L.length W.heap.size _ hR2 hp ho2 hrl h0 hL).mono ?_
  rintro e w2 ⟨s, he, hmem, hR2, hg2⟩
  exact ⟨s, he, hmem, hR2, grown_trans3 (grown_trans3 (World.grownBy_alloc W _ (some r)) hg) hg2⟩

set_option maxHeartbeats 8000000 in
theorem drawDrop_any (v : Value) (zs : List Int) (w : World) (h : IsBytes w v zs) :
    Calls Try.prog 39 #[v] w fun e w' => ∃ u l c s, e = .returned (.tuple #[u, .int .i64 c, .string s]) ∧ Owns w' (w.heap.size + 1) u l ∧ l.length ≤ 21 ∧ -2 ≤ c ∧ c ≤ 2 ∧ Below w.heap.size w w' := by
  obtain ⟨i0, hi, hz0, hz1, hz2⟩ := info_parts infoS
  go_enter Try.func39, Try.ntmps39
  go_wp2_with fail
  refine (open_any v zs _ h).mono ?_
  rintro e w1 ⟨rfl, ⟨v', zs', hR1⟩, hlt1, hB1⟩
  go_wp2_with fail
  refine (anyTexts_draw _ 0 v' zs' _ hR1 (by omega)).mono ?_
  rintro e w2 ⟨u, l, q, rfl, ho2, hl, hs, hR2, hq, hG2⟩
  have hB2 := below_rd hB1 hG2
  have hW2 := hB2.size
  have hG2s := hG2.size
  clear hR1 hG2 hB1 hs
  by_cases h0 : 0 < l.length
  · obtain ⟨g, cap, hu⟩ : ∃ g cap, u = .slice (some ⟨g, 0, none⟩) l.length cap := by
      rcases owns_form ho2 with ⟨rfl, _⟩ | ⟨_, g, c, rfl⟩
      · simp at h0
      · exact ⟨g, c, rfl⟩
    subst hu
    have h0' : (0 : Int) < (l.length : Int) := by omega
    go_wp2_with fail
    refine (pick_any _ q v' zs' _ _ hR2 (by omega) (by omega) (by omega)).mono ?_
    rintro e w3 ⟨x, rfl, hx0, hx1, hR3, hg3⟩
    have hB3 := below_rd hB2 hg3
    have hW3 := hB3.size
    have hG3s := hg3.size
    have ho3 : Owns w3 w1.heap.size _ l := World.ownsRow.kept ho2 hg3 (own_ne_right ho2 hlt1)
    have hrl := rd_lt hR3
    clear hR2 hg3 hB2 ho2
    rcases (show x = 0 ∨ x ≠ 0 by omega) with rfl | hx2
    · have hcell : w3.cell? ⟨g, 0, none⟩ = some (.string (at_ l 0)) := by
        rw [World.ownsRow.cellAt ho3 0 (by omega), List.getElem?_map, List.getElem?_eq_getElem h0, at_lt h0]; rfl
      unfold Owns at ho3
      go_wp2_with (at_builtin; refine wpList_append_own _ rfl (.tmp 19) (.tmp 23) 22 rfl w1.heap.size 9 i0 (.string ByteArray.empty) 1 16 Try.underlying22 hi hz0 hz1 hz2 rfl (by decide) _ _ _ rfl (ho3.alloc _) ⟨w3.heap.size, 0, none⟩ 1 1 [.string (at_ l 0)] rfl rfl (cell_one_new _ _ _) (strs_one [at_ l 0]) (by unfold maxLen; omega) (by omega) (by simp; omega) ?_)
      intro x4 w4 hown4 hgrow4 _
      have ho4 : Owns w4 w1.heap.size x4 (l ++ [at_ l 0]) := by unfold Owns; rw [List.length_append, List.map_append]; exact hown4
      have hB4a : Below w1.heap.size w3 w4 := ((Below.refl _ w3).alloc (by omega) _).grown hgrow4 (by simp; omega) (fun i hi => (ho3.lt i hi).1)
      have hR4 := rd_kept hR3 hB4a hlt1
      have hB4 : Below w.heap.size w w4 := hB3.trans (hB4a.mono (by omega))
      have hW4 := hB4a.size
      clear hown4 hgrow4 hB4a hR3 hB3 ho3 hcell
      generalize hM : l ++ [at_ l 0] = M at *
      have hMl : M.length ≤ 21 ∧ 0 < M.length := by rw [← hM]; simp; omega
      obtain ⟨g4, cap4, hu4⟩ : ∃ g cap, x4 = .slice (some ⟨g, 0, none⟩) M.length cap := by
        rcases owns_form ho4 with ⟨rfl, h'⟩ | ⟨_, g, c, rfl⟩
        · exfalso; have := hMl.2; simp at this
        · exact ⟨g, c, rfl⟩
      subst hu4
      have hm0 : (0 : Int) < (M.length : Int) := by omega
      have hcell4 : w4.cell? ⟨g4, 0, none⟩ = some (.string (at_ M 0)) := by
        rw [World.ownsRow.cellAt ho4 0 (by omega), List.getElem?_map, List.getElem?_eq_getElem hMl.2, at_lt hMl.2]; rfl
      clear hM
      go_wp2_with fail
      have HO4 : Hid (Owns w4 w1.heap.size (.slice (some ⟨g4, 0, none⟩) M.length cap4) M) := ho4
      have HR4 : Hid (RdAt w4 w.heap.size v' zs' (q + 1)) := hR4
      clear ho4 hR4
      go_region_held3 (fun w' => w'.cell? ⟨g4, 0, none⟩ = some (.string (at_ M 0))) (first | exact hcell4 | assumption | go_keep) (first
        | (go_at_call 64; refine (one_lit w4 w.heap.size (q + 1) v' zs' [0, 1, -1, 2, -2] 1 HR4.out (by omega) (by decide) (by decide)).mono ?_; rintro e w6 ⟨s, rfl, hmem, hR6, hg6⟩; have hk6 : w6.cell? ⟨g4, 0, none⟩ = some (.string (at_ M 0)) := own_atE (World.ownsRow.kept HO4.out hg6 (own_ne_right HO4.out hlt1)) hMl.2))
      have ho6 : Owns w6 w1.heap.size (.slice (some ⟨g4, 0, none⟩) M.length cap4) M := World.ownsRow.kept HO4.out hg6 (own_ne_right HO4.out hlt1)
      have hB6 := below_rd hB4 hg6
      have HM6 : Hid (s ∈ [0, 1, -1, 2, -2]) := hmem
      clear hmem hg6 hR6 hk6 hB4
      go_wp2_with fail
      go_ret3
      exact ⟨_, M, s, _, rfl, owns_base ho6 hlt1, hMl.1, (twoE_bd HM6.out).1, (twoE_bd HM6.out).2, hB6⟩
    · have hx2' : (x == 0) = false := beq_eq_false_iff_ne.2 hx2
      have hR := hR3
      clear hx2 hR3
      go_wp2_with fail
      refine (one_lit w3 w.heap.size (q + 1) v' zs' [0, 1, -1, 2] 0 hR (by omega) (by decide) (by decide)).mono ?_
      rintro e w6 ⟨s, rfl, hmem, hR6, hg6⟩
      have ho6 : Owns w6 w1.heap.size _ l := World.ownsRow.kept ho3 hg6 (own_ne_right ho3 hlt1)
      have hB6 := below_rd hB3 hg6
      have HM6 : Hid (s ∈ [0, 1, -1, 2]) := hmem
      clear hmem hg6 hB3 ho3 hR
      go_wp2_with fail
      refine (text_any _ ((q + 1) + 1) v' zs' _ hR6 (by omega)).mono ?_
      rintro e w7 ⟨t, rfl, ht, hR7, hg7⟩
      have ho7 : Owns w7 w1.heap.size _ l := World.ownsRow.kept ho6 hg7 (own_ne_right ho6 hlt1)
      have hB7 := below_rd hB6 hg7
      clear hg7 hB6 ho6 hR6 hR7
      go_wp2_with fail
      go_ret3
      exact ⟨_, l, s, t, rfl, owns_base ho7 hlt1, by omega, (twoE_bd3 HM6.out).1, (twoE_bd3 HM6.out).2, hB7⟩
  · have h0' : ¬ (0 : Int) < (l.length : Int) := by omega
    obtain ⟨ao, cap, hu⟩ := reads_shape (owns_reads ho2)
    subst hu
    have hR := hR2
    clear hR2
    go_wp2_with fail
    refine (one_lit w2 w.heap.size q v' zs' [0, 1, -1, 2] 0 hR (by omega) (by decide) (by decide)).mono ?_
    rintro e w6 ⟨s, rfl, hmem, hR6, hg6⟩
    have ho6 : Owns w6 w1.heap.size _ l := World.ownsRow.kept ho2 hg6 (own_ne_right ho2 hlt1)
    have hB6 := below_rd hB2 hg6
    have HM6 : Hid (s ∈ [0, 1, -1, 2]) := hmem
    clear hmem hg6 hB2 ho2 hR
    go_wp2_with fail
    refine (text_any _ (q + 1) v' zs' _ hR6 (by omega)).mono ?_
    rintro e w7 ⟨t, rfl, ht, hR7, hg7⟩
    have ho7 : Owns w7 w1.heap.size _ l := World.ownsRow.kept ho6 hg7 (own_ne_right ho6 hlt1)
    have hB7 := below_rd hB6 hg7
    clear hg7 hB6 ho6 hR6 hR7
    go_wp2_with fail
    go_ret3
    exact ⟨_, l, s, t, rfl, owns_base ho7 hlt1, by omega, (twoE_bd3 HM6.out).1, (twoE_bd3 HM6.out).2, hB7⟩
end Go.Proofs.Ytjgnfneondlhhaa
