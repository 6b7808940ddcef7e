/- Drawn lists to be moved between, and a drawn list with a text. -/
import Derived.Test.YtfcnhdaefleelaaDrawC
import Derived.Test.YtfcnhdaefleelaaOwn
namespace Go.Proofs.Ytfcnhdaefleelaa
open Go.RowKit

set_option maxHeartbeats 4000000 in
theorem drawAt_any (v : Value) (zs : List Int) (w : World) (h : IsBytes w v zs) :
    Calls Try.prog 14 #[v] w fun e w' => ∃ u l t, e = .returned (.tuple #[u, .string t]) ∧ Owns w' (w.heap.size + 1) u l ∧ l.length ≤ 20 ∧ t.size ≤ 41 ∧ Below w.heap.size w w' := by
  go_enter Try.func14, Try.ntmps14
  go_wp2_with fail
  refine (open_any v zs _ h).mono ?_
  rintro e w1 ⟨rfl, ⟨v', zs', hR1⟩, hlt1, hB1⟩
  go_wp2_with fail
  refine (anyTexts_draw _ 0 v' zs' _ hR1 (by omega)).mono ?_
  rintro e w2 ⟨u, l, q, rfl, ho2, hl, hs, hR2, hq, hG2⟩
  have hB2 := below_rd hB1 hG2
  clear hR1 hG2 hB1 hs
  go_wp2_with fail
  refine (text_any _ q v' zs' _ hR2 (by omega)).mono ?_
  rintro e w3 ⟨t, rfl, ht, hR3, hg3⟩
  have hB3 := below_rd hB2 hg3
  have ho3 : Owns w3 w1.heap.size u l := World.ownsRow.kept ho2 hg3 (own_ne_right ho2 hlt1)
  clear hR2 hg3 hB2 ho2
  go_wp2_with fail
  go_ret2
  exact ⟨_, l, t, rfl, owns_base ho3 hlt1, hl, ht, hB3⟩

/-- four results -/
theorem results_tmp4 {P : Program} {fn : Func} {t u v x : Tmp} (h : fn.results = #[.tmp t, .tmp u, .tmp v, .tmp x]) (tmps : Array Value) (w : World) :
    (results fn tmps).run P w = .ok (.tuple #[tmps.getD t undef, tmps.getD u undef, tmps.getD v undef, tmps.getD x undef]) w := by
  simp [results, h]
set_option maxHeartbeats 4000000 in
theorem drawMove_any (v : Value) (zs : List Int) (w : World) (h : IsBytes w v zs) :
    Calls Try.prog 6 #[v] w fun e w' => ∃ u a x b f g mid, e = .returned (.tuple #[u, x, .bool f, .bool g]) ∧ Owns w' (w.heap.size + 1) u a ∧ (∀ k, u.ownBlock = some k → k < mid) ∧ Owns w' mid x b ∧ w.heap.size < mid ∧ a.length ≤ 20 ∧ b.length ≤ 20 ∧ Below w.heap.size w w' := by
  go_enter Try.func6, Try.ntmps6
  go_wp2_with fail
  refine (open_any v zs _ h).mono ?_
  rintro e w1 ⟨rfl, ⟨v', zs', hR1⟩, hlt1, hB1⟩
  go_wp2_with fail
  refine (anyTexts_draw _ 0 v' zs' _ hR1 (by omega)).mono ?_
  rintro e w2 ⟨u, l, q, rfl, ho2, hl, hs, hR2, hq, hG2⟩
  have hB2 := below_rd hB1 hG2
  have hlt2 := hG2.size
  clear hR1 hG2 hB1 hs
  go_wp2_with fail
  refine (anyTexts_draw _ q v' zs' _ hR2 (by omega)).mono ?_
  rintro e w4 ⟨x, ts, q2, rfl, ho4, hl4, hs4, hR4, hq4, hG4⟩
  have hB4 := below_rd hB2 hG4
  have hlt4 := hG4.size
  have ho5 : Owns w4 w1.heap.size u l := World.ownsRow.kept ho2 hG4 (own_ne_right ho2 hlt1)
  have HMID : Hid (∀ k, u.ownBlock = some k → k < w2.heap.size) := fun k hk => (ho2.lt k hk).2
  clear hR2 hG4 hB2 ho2 hs4
  go_wp2_with fail
  refine (pick_any _ q2 v' zs' _ _ hR4 (by omega) (by omega) (by omega)).mono ?_
  rintro e w6 ⟨y, rfl, hy0, hy1, hR6, hg6⟩
  have hB6 := below_rd hB4 hg6
  have ho6 : Owns w6 w1.heap.size u l := World.ownsRow.kept ho5 hg6 (own_ne_right ho5 hlt1)
  have hx6 : Owns w6 w2.heap.size x ts := World.ownsRow.kept ho4 hg6 (own_ne_right ho4 (Nat.lt_of_lt_of_le hlt1 hlt2))
  clear hR4 hg6 hB4 ho5 ho4
  go_wp2_with fail
  refine (pick_any _ (q2 + 1) v' zs' _ _ hR6 (by omega) (by omega) (by omega)).mono ?_
  rintro e w7 ⟨z, rfl, hz0, hz1, hR7, hg7⟩
  have hB7 := below_rd hB6 hg7
  have ho7 : Owns w7 w1.heap.size u l := World.ownsRow.kept ho6 hg7 (own_ne_right ho6 hlt1)
  have hx7 : Owns w7 w2.heap.size x ts := World.ownsRow.kept hx6 hg7 (own_ne_right hx6 (Nat.lt_of_lt_of_le hlt1 hlt2))
  clear hR6 hg7 hB6 ho6 hx6
  go_wp2_with fail
  refine bodyPost_ret (results_tmp4 rfl _ _) rfl ?_
  exact ⟨_, l, _, ts, _, _, w2.heap.size, rfl, owns_base ho7 hlt1, HMID.out, hx7, by omega, hl, hl4, hB7⟩
end Go.Proofs.Ytfcnhdaefleelaa
