/- Draws of a text, a place and a bit. -/
import Derived.Test.YtnpkegmkmhambaaWdL
namespace Go.Proofs.Ytnpkegmkmhambaa
open Go.RowKit
set_option linter.unusedVariables false

theorem ints_own (w : World) (L : List Int) (n : Nat) (hn : L.length = n) (hm : n ≤ 1000) : (w.alloc (.cells (L.map (Value.int .i64)).toArray 3)).ownsRow w.heap.size 3 1 (.slice (some ⟨w.heap.size, 0, none⟩) L.length n) L.length (L.map (Value.int .i64)) := by
  have := World.ownsRow_lit w (base := w.heap.size) (e := 3) (size := 1) (L.map (Value.int .i64)).toArray n (Nat.le_refl _) (by unfold maxLen; omega) (by simp [hn])
  rw [hn]; simpa using this
/-- one of some numbers that are laid out on the spot -/
theorem one_spot (r p : Nat) (v : Value) (zs : List Int) (L : List Int) (n : Nat) (w : World) (h : RdAt w r v zs p) (hp : p ≤ 90000) (hl : L.length = n) (h0 : 0 < n) (hn : n ≤ 1000) :
    Calls Try.prog 19 #[.pointer (some ⟨r, 0, none⟩), .slice (some ⟨w.heap.size, 0, none⟩) n n] (w.alloc (.cells (L.map (Value.int .i64)).toArray 3)) fun e w' => ∃ s : Int, e = .returned (.int .i64 s) ∧ s ∈ L ∧ RdAt w' r v zs (p + 1) ∧ w.grownBy w' (some r) := by
  have hB := (Below.refl w.heap.size w).alloc (Nat.le_refl _) (.cells (L.map (Value.int .i64)).toArray 3)
  have ho := ints_own w L n hl hn
  have := one_any r p v zs L w.heap.size n w.heap.size _ (rd_grown h hB) (by omega) ho (rd_lt h) (by omega) (by omega)
  rw [hl] at this
  refine this.mono ?_
  rintro e w2 ⟨s, rfl, hmem, hR2, hg2⟩
  exact ⟨s, rfl, hmem, hR2, grown_trans2 (World.grownBy_alloc w _ (some r)) hg2⟩

theorem bytes_kept {w w' : World} {v : Value} {zs : List Int} (h : IsBytes w v zs) (hb : Below w.heap.size w w') : IsBytes w' v zs := by
  obtain ⟨ao, cap, rfl, h1, h2, h3, h4⟩ := h
  refine ⟨ao, cap, rfl, h1, h2, h3, fun h0 => ?_⟩
  obtain ⟨b, off, rfl, hlt, hc⟩ := h4 h0
  exact ⟨b, off, rfl, Nat.lt_of_lt_of_le hlt hb.size, fun k hk => (hb.cell (p := ⟨b, off + k, none⟩) hlt).trans (hc k hk)⟩
set_option maxRecDepth 100000 in
set_option maxHeartbeats 4000000 in
theorem drawGet_any (v : Value) (zs : List Int) (w : World) (h : IsBytes w v zs) :
    Calls Try.prog 17 #[v] w fun e w' => ∃ s a, e = .returned (.tuple #[.string s, .int .i64 a]) ∧ s.size ≤ 41 ∧ Below w.heap.size w w' := by
  go_enter Try.func17, Try.ntmps17
  go_wp2_with fail
  refine (open_any v zs _ h).mono ?_
  rintro e w1 ⟨rfl, ⟨v', zs', hR1⟩, hlt1, hB1⟩
  go_wp2_with fail
  refine (text40_any _ 0 v' zs' _ hR1 (by omega)).mono ?_
  rintro e w2 ⟨t1, rfl, ht1, hR2, hg2⟩
  have hB2 := below_rd hB1 hg2
  clear hR1 hg2 hB1
  go_wp2_with fail
  refine (text40_any _ 1 v' zs' _ hR2 (by omega)).mono ?_
  rintro e w3 ⟨t2, rfl, ht2, hR3, hg3⟩
  have hB3 := below_rd hB2 hg3
  have hr3 := rd_lt hR3
  clear hR2 hg3 hB2
  go_wp2_with fail
  refine (many_any ⟨#[120]⟩ 41 _ (by decide) (by decide) (by decide)).mono ?_
  rintro e w4 ⟨t3, rfl, ht3, _, rfl⟩
  have ht3' : t3.size = 41 := ht3
  go_wp2_with fail
  have hB := (Below.refl w3.heap.size w3).alloc (Nat.le_refl _) (.cells ((threeL t1 t2 t3).map Value.string).toArray 9)
  have ho : Owns (w3.alloc (.cells ((threeL t1 t2 t3).map Value.string).toArray 9)) w3.heap.size (.slice (some ⟨w3.heap.size, 0, none⟩) 3 3) (threeL t1 t2 t3) := World.ownsRow_lit w3 ((threeL t1 t2 t3).map Value.string).toArray 3 (Nat.le_refl _) (by decide) rfl
  refine (of_any _ _ v' zs' _ (threeL t1 t2 t3) w3.heap.size (w3.alloc (.cells ((threeL t1 t2 t3).map Value.string).toArray 9)) (rd_grown hR3 hB) (by omega) ho hr3 (Nat.succ_pos _) (show 3 ≤ 1000 by decide)).mono ?_
  rintro e w5 ⟨s, rfl, hmem, hR5, hg5⟩
  have hs : s.size ≤ 41 := by
    simp only [threeL, List.mem_cons, List.not_mem_nil, or_false] at hmem
    rcases hmem with rfl | rfl | rfl <;> omega
  have hB5 := below_rd hB3 (grown_trans2 (World.grownBy_alloc w3 (.cells ((threeL t1 t2 t3).map Value.string).toArray 9) (some w.heap.size)) hg5)
  clear hg5 ho hB hmem hR3 hB3 ht3 ht3'
  go_wp2_with fail
  refine (pick_any _ _ v' zs' 256 _ hR5 (by omega) (by omega) (by omega)).mono ?_
  rintro e w6 ⟨x, rfl, _, _, hR6, hg6⟩
  have hB6 := below_rd hB5 hg6
  clear hR5 hg6 hB5
  go_wp2_with fail
  refine (one_spot w.heap.size _ v' zs' [0, 7, 8, 15, x, 319, 320, -1] 8 w6 hR6 (by omega) rfl (by decide) (by decide)).mono ?_
  rintro e w7 ⟨y, rfl, _, hR7, hg7⟩
  have hB7 := below_rd hB6 hg7
  clear hR6 hg7 hB6
  go_wp2_with fail
  go_ret2
  exact ⟨s, y, rfl, hs, hB7⟩
set_option maxRecDepth 100000 in
set_option maxHeartbeats 4000000 in
theorem drawPut_any (v : Value) (zs : List Int) (w : World) (h : IsBytes w v zs) :
    Calls Try.prog 6 #[v] w fun e w' => ∃ s a b, e = .returned (.tuple #[.string s, .int .i64 a, .int .i64 b]) ∧ s.size ≤ 41 ∧ Below w.heap.size w w' := by
  go_enter Try.func6, Try.ntmps6
  go_wp2_with fail
  refine (drawGet_any v zs _ h).mono ?_
  rintro e w1 ⟨s, a, rfl, hs, hB1⟩
  have hI1 := bytes_kept h hB1
  have hz1 := hB1.size
  go_wp2_with fail
  refine (open_any v zs _ hI1).mono ?_
  rintro e w2 ⟨rfl, ⟨v', zs', hR2⟩, hlt2, hB2⟩
  have HB2 : Hid (Below w.heap.size w w2) := hB1.trans (hB2.mono hz1)
  clear hB1 hB2 hI1
  go_wp2_with fail
  refine (one_spot w1.heap.size _ v' zs' [0, 1, 1, 2] 4 w2 hR2 (by omega) rfl (by decide) (by decide)).mono ?_
  rintro e w3 ⟨y, rfl, _, hR3, hg3⟩
  have hB3 : Below w.heap.size w w3 := HB2.out.grown hg3 HB2.out.size (fun k hk => by simp at hk; omega)
  clear hR2 hg3
  go_wp2_with fail
  go_ret3
  exact ⟨s, a, y, rfl, hs, hB3⟩
end Go.Proofs.Ytnpkegmkmhambaa
