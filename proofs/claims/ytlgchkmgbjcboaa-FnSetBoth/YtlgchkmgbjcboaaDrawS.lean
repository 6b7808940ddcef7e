/- Draws: sets, and sets with texts. -/
import Derived.Test.YtlgchkmgbjcboaaDrawO
import Derived.Test.YtlgchkmgbjcboaaSetAD
namespace Go.Proofs.Ytlgchkmgbjcboaa
open Go.RowKit

set_option maxHeartbeats 8000000 in
theorem set_draw (r p : Nat) (v : Value) (zs : List Int) (w : World) (h : RdAt w r v zs p) (hp : p ≤ 80000) :
    Calls Try.prog 48 #[.pointer (some ⟨r, 0, none⟩)] w fun e w' => ∃ u l q, e = .returned u ∧ Owns w' w.heap.size u l ∧ l.length ≤ 20 ∧ RdAt w' r v zs q ∧ q ≤ p + 100 ∧ w.grownBy w' (some r) := by
  have hrl := rd_lt h
  have ho0 : Owns (w.alloc (.cells #[] 9)) w.heap.size (.slice (some ⟨w.heap.size, 0, none⟩) 0 0) [] := World.ownsRow_lit w #[] 0 (Nat.le_refl _) (by simp) rfl
  have hR0 : RdAt (w.alloc (.cells #[] 9)) r v zs p := rd_grown h ((Below.refl _ w).alloc (Nat.le_refl _) _)
  have hG0 : w.grownBy (w.alloc (.cells #[] 9)) (some r) := World.grownBy_alloc w _ _
  clear h
  go_enter Try.func48, Try.ntmps48
  go_wp2_with fail
  refine (anyTexts_draw r p v zs _ hR0 hp).mono ?_
  rintro e w2 ⟨u2, l2, q2, rfl, ho2, hl2, _, hR2, hq2, hG2⟩
  have hox : Owns w2 w.heap.size (.slice (some ⟨w.heap.size, 0, none⟩) 0 0) [] := World.ownsRow.kept ho0 hG2 (own_ne_right ho0 hrl)
  have hG := grown_trans3 hG0 hG2
  have hr2 := owns_reads ho2
  have hsz := hG.size
  clear ho0 hR0 hG0 hG2 ho2
  obtain ⟨a2, c2, hu⟩ := reads_shape hr2
  subst hu
  go_wp2_with fail
  go_loopw [3, 5] (fun x i wr => ∃ (k : Nat) (O : List ByteArray), k ≤ l2.length ∧ i = .int .i64 (k : Int) ∧ Owns wr w.heap.size x O ∧ O.length ≤ k ∧ Below w2.heap.size w2 wr) (fun _ i _ => l2.length - (intOf i).toNat)
  case atStart => exact ⟨0, [], Nat.zero_le _, rfl, hox, by simp, Below.refl _ _⟩
  case round =>
    obtain ⟨k, O, hk, rfl, ho, hO, hB⟩ := hrel
    clear hox
    have hBs := hB.size
    by_cases hlt : k < l2.length
    · have hi1 : (k : Int) < (l2.length : Int) := by omega
      obtain ⟨bl, off, rfl, hbl, hc⟩ := reads_someS hr2 (by omega)
      have hcell : wr.cell? ⟨bl, off + k, none⟩ = some (.string (at_ l2 k)) := (hB.cell (p := ⟨bl, off + k, none⟩) hbl).trans (hc k hlt)
      clear hc
      by_cases hsz40 : ((at_ l2 k).size : Int) ≤ 40
      · go_wp2_with fail
        refine (l2Put_any _ O (at_ l2 k) w.heap.size _ ho (by omega) (by omega)).mono ?_
        rintro e w5 ⟨x5, rfl, ho5, hb5⟩
        have hB5 := below_stepT hB hb5
        have hpl := putM_len (at_ l2 k) O
        clear hb5 hB ho
        go_wp2_with fail
        go_roundw
        case rel => exact ⟨k + 1, _, hlt, by go_num, ho5, by omega, hB5⟩
        case measure => simp [intOf]; omega
      · go_wp2_with fail
        go_roundw
        case rel => exact ⟨k + 1, O, hlt, by go_num, ho, by omega, hB⟩
        case measure => simp [intOf]; omega
    · have hRk := rd_grown hR2 hB
      have hGk : w.grownBy wr (some r) := grown_base hG (hB.mono hsz)
      have hi1 : ¬ (k : Int) < (l2.length : Int) := by omega
      go_wp2_with fail
      go_ret
      exact ⟨_, rfl, O, ho, by omega, q2, hRk, hq2, hGk⟩

set_option maxHeartbeats 8000000 in
theorem anySet_draw (r p : Nat) (v : Value) (zs : List Int) (w : World) (h : RdAt w r v zs p) (hp : p ≤ 70000) :
    Calls Try.prog 35 #[.pointer (some ⟨r, 0, none⟩)] w fun e w' => ∃ u l q, e = .returned u ∧ Owns w' w.heap.size u l ∧ l.length ≤ 20 ∧ RdAt w' r v zs q ∧ q ≤ p + 200 ∧ w.grownBy w' (some r) := by
  have hrl := rd_lt h
  go_enter Try.func35, Try.ntmps35
  go_wp2_with fail
  refine (pick_any r p v zs _ _ h (by omega) (by omega) (by omega)).mono ?_
  rintro e w2 ⟨x, rfl, hx0, hx1, hR2, hg2⟩
  have hsz := hg2.size
  clear h
  by_cases hx : x = 0
  · subst hx
    go_wp2_with fail
    refine (anyTexts_draw r (p + 1) v zs _ hR2 (by omega)).mono ?_
    rintro e w3 ⟨u3, l3, q3, rfl, ho3, hl3, _, hR3, hq3, hG3⟩
    have hG := grown_trans3 hg2 hG3
    go_wp2_with fail
    go_ret
    exact ⟨_, l3, q3, rfl, owns_base ho3 hsz, hl3, hR3, by omega, hG⟩
  · have hx' : (x == 0) = false := beq_eq_false_iff_ne.2 hx
    clear hx
    go_wp2_with fail
    refine (set_draw r (p + 1) v zs _ hR2 (by omega)).mono ?_
    rintro e w3 ⟨u3, l3, q3, rfl, ho3, hl3, hR3, hq3, hG3⟩
    have hG := grown_trans3 hg2 hG3
    go_wp2_with fail
    go_ret
    exact ⟨_, l3, q3, rfl, owns_base ho3 hsz, hl3, hR3, by omega, hG⟩

set_option maxHeartbeats 4000000 in
theorem drawSAdd_any (v : Value) (zs : List Int) (w : World) (h : IsBytes w v zs) :
    Calls Try.prog 12 #[v] w fun e w' => ∃ u l x ts, e = .returned (.tuple #[u, x]) ∧ Reads w' u l ∧ Reads w' x ts ∧ l.length ≤ 20 ∧ ts.length ≤ 20 ∧ Below w.heap.size w w' := by
  go_enter Try.func12, Try.ntmps12
  go_wp2_with fail
  refine (open_any v zs _ h).mono ?_
  rintro e w1 ⟨rfl, ⟨v', zs', hR1⟩, hlt1, hB1⟩
  go_wp2_with fail
  refine (anySet_draw _ 0 v' zs' _ hR1 (by omega)).mono ?_
  rintro e w2 ⟨u, l, q, rfl, ho2, hl, hR2, hq, hG2⟩
  have hB2 := below_rd hB1 hG2
  clear hR1 hG2 hB1
  go_wp2_with fail
  refine (anyTexts_draw _ q v' zs' _ hR2 (by omega)).mono ?_
  rintro e w3 ⟨x, ts, q3, rfl, ho3, hl3, _, hR3, hq3, hG3⟩
  have hB3 := below_rd hB2 hG3
  have ho4 : Owns w3 w1.heap.size u l := World.ownsRow.kept ho2 hG3 (own_ne_right ho2 hlt1)
  clear hR2 hG3 hB2 ho2
  go_wp2_with fail
  go_ret2
  exact ⟨_, l, _, ts, rfl, owns_reads ho4, owns_reads ho3, hl, hl3, hB3⟩

set_option maxHeartbeats 4000000 in
theorem drawSDrop_any (v : Value) (zs : List Int) (w : World) (h : IsBytes w v zs) :
    Calls Try.prog 19 #[v] w fun e w' => ∃ u l x ts, e = .returned (.tuple #[u, x]) ∧ Reads w' u l ∧ Reads w' x ts ∧ l.length ≤ 20 ∧ ts.length ≤ 20 ∧ Below w.heap.size w w' := by
  go_enter Try.func19, Try.ntmps19
  go_wp2_with fail
  refine (drawSAdd_any v zs _ h).mono ?_
  rintro e w1 ⟨u, l, x, ts, rfl, h1, h2, h3, h4, h5⟩
  obtain ⟨a1, c1, e1⟩ := reads_shape h1
  obtain ⟨a2, c2, e2⟩ := reads_shape h2
  subst e1 e2
  go_wp2_with fail
  go_ret2
  exact ⟨_, l, _, ts, rfl, h1, h2, h3, h4, h5⟩

set_option maxHeartbeats 4000000 in
theorem drawSBoth_any (v : Value) (zs : List Int) (w : World) (h : IsBytes w v zs) :
    Calls Try.prog 22 #[v] w fun e w' => ∃ u l x ts, e = .returned (.tuple #[u, x]) ∧ Reads w' u l ∧ Reads w' x ts ∧ l.length ≤ 20 ∧ ts.length ≤ 20 ∧ Below w.heap.size w w' := by
  go_enter Try.func22, Try.ntmps22
  go_wp2_with fail
  refine (open_any v zs _ h).mono ?_
  rintro e w1 ⟨rfl, ⟨v', zs', hR1⟩, hlt1, hB1⟩
  go_wp2_with fail
  refine (anySet_draw _ 0 v' zs' _ hR1 (by omega)).mono ?_
  rintro e w2 ⟨u, l, q, rfl, ho2, hl, hR2, hq, hG2⟩
  have hB2 := below_rd hB1 hG2
  clear hR1 hG2 hB1
  go_wp2_with fail
  refine (anySet_draw _ q v' zs' _ hR2 (by omega)).mono ?_
  rintro e w3 ⟨x, ts, q3, rfl, ho3, hl3, hR3, hq3, hG3⟩
  have hB3 := below_rd hB2 hG3
  have ho4 : Owns w3 w1.heap.size u l := World.ownsRow.kept ho2 hG3 (own_ne_right ho2 hlt1)
  clear hR2 hG3 hB2 ho2
  go_wp2_with fail
  go_ret2
  exact ⟨_, l, _, ts, rfl, owns_reads ho4, owns_reads ho3, hl, hl3, hB3⟩
end Go.Proofs.Ytlgchkmgbjcboaa
