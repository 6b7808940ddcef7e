/- Draws of texts and bits. -/
import Derived.Test.YtnpkegmkmhambaaWdI
import Derived.Test.YtnpkegmkmhambaaDrX
namespace Go.Proofs.Ytnpkegmkmhambaa
open Go.RowKit
set_option linter.unusedVariables false

theorem words_40 {t : ByteArray} (ht : t.size ≤ 40) : ∀ s ∈ words t, s.size ≤ 40 := by
  intro s hs
  simp only [words, List.mem_cons, List.not_mem_nil, or_false] at hs
  rcases hs with rfl | rfl | rfl | rfl | rfl | rfl | rfl | rfl | rfl | rfl | rfl
  all_goals first | exact ht | decide
set_option maxRecDepth 100000 in
set_option maxHeartbeats 2000000 in
theorem text40_any (r p : Nat) (v : Value) (zs : List Int) (w : World) (h : RdAt w r v zs p) (hp : p ≤ 100000) :
    Calls Try.prog 31 #[.pointer (some ⟨r, 0, none⟩)] w fun e w' => ∃ s, e = .returned (.string s) ∧ s.size ≤ 40 ∧ RdAt w' r v zs (p + 1) ∧ w.grownBy w' (some r) := by
  have hrl := rd_lt h
  go_enter Try.func31, Try.ntmps31
  go_wp2_with fail
  refine (many_any ⟨#[120]⟩ 40 _ (by decide) (by decide) (by decide)).mono ?_
  rintro e w1 ⟨t, rfl, ht, hft, rfl⟩
  have ht' : t.size = 40 := ht
  go_wp2_with fail
  have hB := (Below.refl w.heap.size w).alloc (Nat.le_refl _) (.cells ((words t).map Value.string).toArray 9)
  have ho : Owns (w.alloc (.cells ((words t).map Value.string).toArray 9)) w.heap.size (.slice (some ⟨w.heap.size, 0, none⟩) 11 11) (words t) := World.ownsRow_lit w ((words t).map Value.string).toArray 11 (Nat.le_refl _) (by decide) rfl
  refine (of_any r p v zs _ (words t) w.heap.size (w.alloc (.cells ((words t).map Value.string).toArray 9)) (rd_grown h hB) hp ho hrl (Nat.succ_pos _) (show 11 ≤ 1000 by decide)).mono ?_
  rintro e w2 ⟨s, rfl, hmem, hR2, hg2⟩
  have hs : s.size ≤ 40 := words_40 (by omega) s hmem
  have hg3 := grown_trans2 (World.grownBy_alloc w (.cells ((words t).map Value.string).toArray 9) (some r)) hg2
  clear hg2 ho hB
  go_wp2_with fail
  go_ret
  exact ⟨s, rfl, hs, hR2, hg3⟩
def findsL (t : ByteArray) : List ByteArray := [⟨#[]⟩, ⟨#[255]⟩, ⟨#[0, 1]⟩, ⟨#[255, 254]⟩, ⟨#[0]⟩, t]
set_option maxRecDepth 100000 in
set_option maxHeartbeats 2000000 in
theorem drawFind_any (v : Value) (zs : List Int) (w : World) (h : IsBytes w v zs) :
    Calls Try.prog 14 #[v] w fun e w' => ∃ s c, e = .returned (.tuple #[.string s, .int .i64 c]) ∧ s.size ≤ 40 ∧ 0 ≤ c ∧ c < 3 ∧ Below w.heap.size w w' := by
  go_enter Try.func14, Try.ntmps14
  go_wp2_with fail
  refine (open_any v zs _ h).mono ?_
  rintro e w1 ⟨rfl, ⟨v', zs', hR1⟩, hlt1, hB1⟩
  go_wp2_with fail
  refine (text40_any _ 0 v' zs' _ hR1 (by omega)).mono ?_
  rintro e w2 ⟨t, rfl, ht, hR2, hg2⟩
  have hB2 := below_rd hB1 hg2
  have hr2 := rd_lt hR2
  clear hR1 hg2 hB1
  go_wp2_with fail
  have hB := (Below.refl w2.heap.size w2).alloc (Nat.le_refl _) (.cells ((findsL t).map Value.string).toArray 9)
  have ho : Owns (w2.alloc (.cells ((findsL t).map Value.string).toArray 9)) w2.heap.size (.slice (some ⟨w2.heap.size, 0, none⟩) 6 6) (findsL t) := World.ownsRow_lit w2 ((findsL t).map Value.string).toArray 6 (Nat.le_refl _) (by decide) rfl
  refine (of_any _ _ v' zs' _ (findsL t) w2.heap.size (w2.alloc (.cells ((findsL t).map Value.string).toArray 9)) (rd_grown hR2 hB) (by omega) ho hr2 (Nat.succ_pos _) (show 6 ≤ 1000 by decide)).mono ?_
  rintro e w3 ⟨s, rfl, hmem, hR3, hg3⟩
  have hs : s.size ≤ 40 := by
    simp only [findsL, List.mem_cons, List.not_mem_nil, or_false] at hmem
    rcases hmem with rfl | rfl | rfl | rfl | rfl | rfl
    all_goals first | exact ht | decide
  have hB3 := below_rd hB2 (grown_trans2 (World.grownBy_alloc w2 (.cells ((findsL t).map Value.string).toArray 9) (some w.heap.size)) hg3)
  clear hg3 ho hB hmem hR2 hB2
  go_wp2_with fail
  refine (pick_any _ _ v' zs' 3 _ hR3 (by omega) (by omega) (by omega)).mono ?_
  rintro e w4 ⟨x, rfl, hx0, hx1, hR4, hg4⟩
  have hB4 := below_rd hB3 hg4
  clear hR3 hg4 hB3
  go_wp2_with fail
  go_ret2
  exact ⟨s, x, rfl, hs, hx0, hx1, hB4⟩
end Go.Proofs.Ytnpkegmkmhambaa
