/- Draws: a list, a place and a text. -/
import Derived.Test.YtnofhdcaihkoeaaDrawC
namespace Go.Proofs.Ytnofhdcaihkoeaa
open Go.RowKit

def three (a b t : ByteArray) : List ByteArray := [a, b, t]
theorem three_short {a b t : ByteArray} (ha : a.size ≤ 41) (hb : b.size ≤ 41) (ht : t.size ≤ 41) : ∀ s ∈ three a b t, s.size ≤ 41 := by
  intro s hs
  simp only [three, List.mem_cons, List.not_mem_nil, or_false] at hs
  rcases hs with h | h | h
  all_goals subst h
  all_goals assumption

set_option maxHeartbeats 4000000 in
theorem drawSet_any (v : Value) (zs : List Int) (w : World) (h : IsBytes w v zs) :
    Calls Try.prog 38 #[v] w fun e w' => ∃ u l a s, e = .returned (.tuple #[u, .int .i64 a, .string s]) ∧ Owns w' (w.heap.size + 1) u l ∧ l.length ≤ 20 ∧ -9 ≤ a ∧ a ≤ 1000000001 ∧ s.size ≤ 41 ∧ Below w.heap.size w w' := by
  go_enter Try.func38, Try.ntmps38
  go_wp2_with fail
  refine (open_any v zs _ h).mono ?_
  rintro e w1 ⟨rfl, ⟨v', zs', hR1⟩, hlt1, hB1⟩
  go_wp2_with fail
  refine (anyTexts_draw _ 0 v' zs' _ hR1 (by omega)).mono ?_
  rintro e w2 ⟨u, l, q, rfl, ho2, hl, hs, hR2, hq, hG2⟩
  have hB2 := below_rd hB1 hG2
  clear hR1 hG2 hB1 hs
  go_wp2_with fail
  refine (place_any _ q v' zs' _ hR2 (by omega)).mono ?_
  rintro e w3 ⟨a, rfl, ha0, ha1, hR3, hg3⟩
  have hB3 := below_rd hB2 hg3
  have ho3 : Owns w3 w1.heap.size u l := World.ownsRow.kept ho2 hg3 (own_ne_right ho2 hlt1)
  clear hR2 hg3 hB2 ho2
  go_wp2_with fail
  refine (text_any _ (q + 1) v' zs' _ hR3 (by omega)).mono ?_
  rintro e w4 ⟨s1, rfl, hs1, hR4, hg4⟩
  have hB4 := below_rd hB3 hg4
  have ho4 : Owns w4 w1.heap.size u l := World.ownsRow.kept ho3 hg4 (own_ne_right ho3 hlt1)
  clear hR3 hg4 hB3 ho3
  go_wp2_with fail
  refine (text_any _ (q + 2) v' zs' _ hR4 (by omega)).mono ?_
  rintro e w5 ⟨s2, rfl, hs2, hR5, hg5⟩
  have hB5 := below_rd hB4 hg5
  have ho5 : Owns w5 w1.heap.size u l := World.ownsRow.kept ho4 hg5 (own_ne_right ho4 hlt1)
  clear hR4 hg5 hB4 ho4
  go_wp2_with fail
  refine (many_any ⟨#[121]⟩ 41 _ (by decide) (by decide) (by decide)).mono ?_
  rintro e w' ⟨t, rfl, ht, rfl⟩
  have ht' : t.size = 41 := ht
  have HSH : Hid (∀ s ∈ three s1 s2 t, s.size ≤ 41) := three_short hs1 hs2 (by omega)
  have hrl := rd_lt hR5
  have hW5 := hB5.size
  clear ht ht' hs1 hs2
  go_wp2_with fail
  have hB := (Below.refl w5.heap.size w5).alloc (Nat.le_refl _) (.cells ((three s1 s2 t).map Value.string).toArray 9)
  have ho : Owns (w5.alloc (.cells ((three s1 s2 t).map Value.string).toArray 9)) w5.heap.size (.slice (some ⟨w5.heap.size, 0, none⟩) 3 3) (three s1 s2 t) := World.ownsRow_lit w5 ((three s1 s2 t).map Value.string).toArray 3 (Nat.le_refl _) (by decide) rfl
  have ho6 := owns_kept ho5 hB
  have hB6 := below_step3 hB5 hB
  refine (of_any _ (q + 3) v' zs' _ (three s1 s2 t) w5.heap.size (w5.alloc (.cells ((three s1 s2 t).map Value.string).toArray 9)) (rd_grown hR5 hB) (by omega) ho hrl (Nat.succ_pos _) (show 3 ≤ 1000 by decide)).mono ?_
  rintro e w7 ⟨s, rfl, hmem, hR7, hg7⟩
  have hB7 := below_rd hB6 hg7
  have ho7 : Owns w7 w1.heap.size u l := World.ownsRow.kept ho6 hg7 (own_ne_right ho6 hlt1)
  have HM : Hid (s ∈ three s1 s2 t) := hmem
  clear hmem hg7 hB6 ho6 ho hB hR5 hB5 ho5 hR7
  go_wp2_with fail
  go_ret3
  exact ⟨_, l, a, s, rfl, owns_base ho7 hlt1, hl, ha0, ha1, HSH.out s HM.out, hB7⟩
end Go.Proofs.Ytnofhdcaihkoeaa
