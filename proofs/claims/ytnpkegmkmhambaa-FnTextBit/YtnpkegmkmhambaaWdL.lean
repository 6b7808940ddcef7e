/- Draws of a text and two places. -/
import Derived.Test.YtnpkegmkmhambaaWdJ
namespace Go.Proofs.Ytnpkegmkmhambaa
open Go.RowKit
set_option linter.unusedVariables false

def threeL (a b c : ByteArray) : List ByteArray := [a, b, c]
set_option maxRecDepth 100000 in
set_option maxHeartbeats 4000000 in
theorem drawCount_any (v : Value) (zs : List Int) (w : World) (h : IsBytes w v zs) :
    Calls Try.prog 12 #[v] w fun e w' => ∃ s f t, e = .returned (.tuple #[.string s, .int .i64 f, .int .i64 t]) ∧ s.size ≤ 41 ∧ Below w.heap.size w w' := by
  go_enter Try.func12, Try.ntmps12
  go_wp2_with fail
  refine (open_any v zs _ h).mono ?_
  rintro e w1 ⟨rfl, ⟨v', zs', hR1⟩, hlt1, hB1⟩
  go_wp2_with fail
  refine (text40_any _ 0 v' zs' _ hR1 (by omega)).mono ?_
  rintro e w2 ⟨t1, rfl, ht1, hR2, hg2⟩
  have hB2 := below_rd hB1 hg2
  clear hR1 hg2 hB1
  go_wp2_with fail
  refine (text40_any _ 1 v' zs' _ hR2 (by omega)).mono ?_
  rintro e w3 ⟨t2, rfl, ht2, hR3, hg3⟩
  have hB3 := below_rd hB2 hg3
  have hr3 := rd_lt hR3
  clear hR2 hg3 hB2
  go_wp2_with fail
  refine (many_any ⟨#[120]⟩ 41 _ (by decide) (by decide) (by decide)).mono ?_
  rintro e w4 ⟨t3, rfl, ht3, _, rfl⟩
  have ht3' : t3.size = 41 := ht3
  go_wp2_with fail
  have hB := (Below.refl w3.heap.size w3).alloc (Nat.le_refl _) (.cells ((threeL t1 t2 t3).map Value.string).toArray 9)
  have ho : Owns (w3.alloc (.cells ((threeL t1 t2 t3).map Value.string).toArray 9)) w3.heap.size (.slice (some ⟨w3.heap.size, 0, none⟩) 3 3) (threeL t1 t2 t3) := World.ownsRow_lit w3 ((threeL t1 t2 t3).map Value.string).toArray 3 (Nat.le_refl _) (by decide) rfl
  refine (of_any _ _ v' zs' _ (threeL t1 t2 t3) w3.heap.size (w3.alloc (.cells ((threeL t1 t2 t3).map Value.string).toArray 9)) (rd_grown hR3 hB) (by omega) ho hr3 (Nat.succ_pos _) (show 3 ≤ 1000 by decide)).mono ?_
  rintro e w5 ⟨s, rfl, hmem, hR5, hg5⟩
  have hs : s.size ≤ 41 := by
    simp only [threeL, List.mem_cons, List.not_mem_nil, or_false] at hmem
    rcases hmem with rfl | rfl | rfl <;> omega
  have hB5 := below_rd hB3 (grown_trans2 (World.grownBy_alloc w3 (.cells ((threeL t1 t2 t3).map Value.string).toArray 9) (some w.heap.size)) hg5)
  clear hg5 ho hB hmem hR3 hB3 ht3 ht3'
  go_wp2_with fail
  refine (place_any _ _ v' zs' _ hR5 (by omega)).mono ?_
  rintro e w6 ⟨f, rfl, _, _, hR6, hg6⟩
  have hB6 := below_rd hB5 hg6
  clear hR5 hg6 hB5
  go_wp2_with fail
  refine (place_any _ _ v' zs' _ hR6 (by omega)).mono ?_
  rintro e w7 ⟨t, rfl, _, _, hR7, hg7⟩
  have hB7 := below_rd hB6 hg7
  clear hR6 hg7 hB6
  go_wp2_with fail
  go_ret3
  exact ⟨s, f, t, rfl, hs, hB7⟩
end Go.Proofs.Ytnpkegmkmhambaa
