/- Fields are drawn, and one; or one's name. -/
import Derived.Test.YtfnbjjcelncliaaDrF
namespace Go.Proofs.Ytfnbjjcelncliaa
open Go.RowKit

theorem ofF_spot (r p : Nat) (v : Value) (zs : List Int) (L : List ByteArray) (n : Nat) (w : World) (h : RdAt w r v zs p) (hp : p ≤ 90000) (hl : L.length = n) (h0 : 0 < n) (hn : n ≤ 1000) :
    Calls Try.prog 27 #[.pointer (some ⟨r, 0, none⟩), .slice (some ⟨w.heap.size, 0, none⟩) n n] (w.alloc (.cells (L.map Value.string).toArray 9)) fun e w' => ∃ s : ByteArray, e = .returned (.string s) ∧ s ∈ L ∧ RdAt w' r v zs (p + 1) ∧ w.grownBy w' (some r) := by
  have hB := (Below.refl w.heap.size w).alloc (Nat.le_refl _) (.cells (L.map Value.string).toArray 9)
  have ho : Owns (w.alloc (.cells (L.map Value.string).toArray 9)) w.heap.size (.slice (some ⟨w.heap.size, 0, none⟩) n n) L := by
    have := World.ownsRow_lit w (base := w.heap.size) (e := 9) (size := 1) (L.map Value.string).toArray n (Nat.le_refl _) (by unfold maxLen; omega) (by simp [hl])
    unfold Owns; rw [hl]; simpa using this
  refine (of_any r p v zs _ L w.heap.size _ (rd_grown h hB) (by omega) ho (rd_lt h) (by omega) (by omega)).mono ?_
  rintro e w2 ⟨s, rfl, hmem, hR2, hg2⟩
  exact ⟨s, rfl, hmem, hR2, grown_trans2 (World.grownBy_alloc w _ (some r)) hg2⟩
theorem dpF_res {w : World} {tmps : Array Value} {g : Nat} {x : Value} {s : ByteArray} {n : ByteArray} (h2 : tmps[2]?.getD undef = x) (hp : tmps[3]?.getD undef = .pointer (some ⟨g, 0, none⟩))
    (hg : w.rangeAt g 0 [.string s, .string n]) : (results Try.f14 tmps).run Try.prog w = .ok (.tuple #[x, .agg #[.string s, .string n]]) w := by
  have hl := run_loadVar_mid (P := Try.prog) w g 0 38 [.string s, .string n] _ hg Try.underlying38 rfl (by kernel_rfl)
  simp [results, Try.results14, asAddr, h2, hp, hl]
set_option maxHeartbeats 4000000 in
theorem drawFPut_any (v : Value) (zs : List Int) (w : World) (h : IsBytes w v zs) :
    Calls Try.prog 14 #[v] w fun e w' => ∃ x O s, ∃ n : ByteArray, e = .returned (.tuple #[x, .agg #[.string s, .string n]]) ∧ PrOwns w' w.heap.size x O ∧ O.length ≤ 17 ∧ Below w.heap.size w w' := by
  obtain ⟨W0, hW0⟩ : ∃ W0, w.alloc (.cells #[.string ⟨#[]⟩, .string ⟨#[]⟩] 38) = W0 := ⟨_, rfl⟩
  have hB0 : Below w.heap.size w W0 := by rw [← hW0]; exact (Below.refl _ w).alloc (Nat.le_refl _) _
  have hz0 : w.heap.size + 1 ≤ W0.heap.size := by rw [← hW0]; simp
  have hw0 : W0.heap[w.heap.size]? = some (.cells #[.string ⟨#[]⟩, .string ⟨#[]⟩] 38 (0, 0)) := by rw [← hW0]; exact heap_alloc_new w _
  have hI : IsBytes W0 v zs := by
    obtain ⟨ao, cap, rfl, hlc, hcm, hzb, hz⟩ := h
    refine ⟨ao, cap, rfl, hlc, hcm, hzb, fun h0 => ?_⟩
    obtain ⟨b, off, hao, hlt, hc⟩ := hz h0
    exact ⟨b, off, hao, Nat.lt_of_lt_of_le hlt hB0.size, fun k hk => (hB0.cell (p := ⟨b, off + k, none⟩) hlt).trans (hc k hk)⟩
  clear h
  go_enter Try.func14, Try.ntmps14
  go_wp2_with fail
  clear hW0
  refine (open_any v zs _ hI).mono ?_
  rintro e w1 ⟨rfl, ⟨v1, zs1, hR1⟩, hz1, hB1⟩
  go_wp2_with fail
  refine (anyFields_draw _ _ v1 zs1 _ hR1 (by omega)).mono ?_
  rintro e w2 ⟨x, O, q, rfl, ho2, hO, hR2, hq, hg2⟩
  have hB2 := below_rd hB1 hg2
  clear hR1 hg2 hB1
  go_wp2_with fail
  refine (textF_any _ _ v1 zs1 _ hR2 (by omega)).mono ?_
  rintro e w3 ⟨t3, rfl, ht3, _, hR3, hg3⟩
  have ho3 : PrOwns w3 w1.heap.size x O := World.ownsRow.kept ho2 hg3 (pr_ne ho2 hz1)
  have hB3 := below_rd hB2 hg3
  clear hR2 hg3 hB2 ho2
  go_wp2_with fail
  refine (textF_any _ _ v1 zs1 _ hR3 (by omega)).mono ?_
  rintro e w4 ⟨t4, rfl, ht4, _, hR4, hg4⟩
  have ho4 : PrOwns w4 w1.heap.size x O := World.ownsRow.kept ho3 hg4 (pr_ne ho3 hz1)
  have hB4 := below_rd hB3 hg4
  clear hR3 hg4 hB3 ho3
  go_wp2_with fail
  refine (many_any ⟨#[121]⟩ 41 _ (by decide) (by decide) (by omega)).mono ?_
  rintro e w5 ⟨t5, rfl, ht5, _, rfl⟩
  go_wp2_with fail
  refine (ofF_spot _ _ v1 zs1 [t3, t4, t5] 3 _ hR4 (by omega) rfl (by omega) (by omega)).mono ?_
  rintro e w6 ⟨s, rfl, _, hR6, hg6⟩
  have ho6 : PrOwns w6 w1.heap.size x O := World.ownsRow.kept ho4 hg6 (pr_ne ho4 hz1)
  have hB6 := below_rd hB4 hg6
  clear hR4 hg6 hB4 ho4
  go_wp2_with fail
  refine (textF_any _ _ v1 zs1 _ hR6 (by omega)).mono ?_
  rintro e w7 ⟨n, rfl, _, _, hR7, hg7⟩
  have ho7 : PrOwns w7 w1.heap.size x O := World.ownsRow.kept ho6 hg7 (pr_ne ho6 hz1)
  have hB7 := below_rd hB6 hg7
  have hw7 : w7.heap[w.heap.size]? = _ := (hB7.block w.heap.size (by omega)).trans hw0
  have c0 : w7.cell? ⟨w.heap.size, 0, none⟩ = _ := cell_of_row w7 w.heap.size 0 _ _ _ hw7
  have c1 : w7.cell? ⟨w.heap.size, 1, none⟩ = _ := cell_of_row w7 w.heap.size 1 _ _ _ hw7
  simp only [List.getElem?_toArray, List.getElem?_cons_zero, List.getElem?_cons_succ] at c0 c1
  have f0 : w7.frozen? ⟨w.heap.size, 0, none⟩ = false := frozen_of_row w7 w.heap.size 0 _ _ hw7
  have f1 : w7.frozen? ⟨w.heap.size, 1, none⟩ = false := frozen_of_row w7 w.heap.size 1 _ _ hw7
  have hBw := hB0.trans (hB7.mono hB0.size)
  have hoF := own_setCell (own_setCell ho7 ⟨w.heap.size, 0, none⟩ (.string s) (by show w.heap.size < _; omega)) ⟨w.heap.size, 1, none⟩ (.string n) (by show w.heap.size < _; omega)
  have hBF : Below w.heap.size w ((w7.setCell ⟨w.heap.size, 0, none⟩ (.string s)).setCell ⟨w.heap.size, 1, none⟩ (.string n)) := (hBw.setCell (Nat.le_refl _) _).setCell (Nat.le_refl _) _
  have hrg : ((w7.setCell ⟨w.heap.size, 0, none⟩ (.string s)).setCell ⟨w.heap.size, 1, none⟩ (.string n)).rangeAt w.heap.size 0 [.string s, .string n] :=
    World.rangeAt_setCells_same w7 w.heap.size 0 [.string s, .string n] (fun j hj => by
      match j, hj with
      | 0, _ => exact ⟨by rw [Nat.zero_add, c0]; rfl, by rw [Nat.zero_add]; exact f0⟩
      | 1, _ => exact ⟨by rw [Nat.zero_add, c1]; rfl, by rw [Nat.zero_add]; exact f1⟩)
  clear hR6 hg7 hB6 ho6 hR7 hw7 hB7 ho7 hBw hw0
  go_wp2_with fail
  refine bodyPost_ret (dpF_res rfl rfl hrg) rfl ⟨x, O, s, n, rfl, ownsR_base hoF (by omega), hO, hBF⟩
set_option maxHeartbeats 2000000 in
theorem drawFDrop_any (v : Value) (zs : List Int) (w : World) (h : IsBytes w v zs) :
    Calls Try.prog 22 #[v] w fun e w' => ∃ x O t, e = .returned (.tuple #[x, .string t]) ∧ PrOwns w' w.heap.size x O ∧ O.length ≤ 17 ∧ t.size ≤ 41 ∧ Below w.heap.size w w' := by
  go_enter Try.func22, Try.ntmps22
  go_wp2_with fail
  refine (open_any v zs _ h).mono ?_
  rintro e w1 ⟨rfl, ⟨v1, zs1, hR1⟩, hz1, hB1⟩
  go_wp2_with fail
  refine (anyFields_draw _ _ v1 zs1 _ hR1 (by omega)).mono ?_
  rintro e w2 ⟨x, O, q, rfl, ho2, hO, hR2, hq, hg2⟩
  have hB2 := below_rd hB1 hg2
  clear hR1 hg2 hB1
  go_wp2_with fail
  refine (textF_any _ _ v1 zs1 _ hR2 (by omega)).mono ?_
  rintro e w3 ⟨t, rfl, ht, _, hR3, hg3⟩
  have ho3 : PrOwns w3 w1.heap.size x O := World.ownsRow.kept ho2 hg3 (pr_ne ho2 hz1)
  have hB3 := below_rd hB2 hg3
  have ho4 := ownsR_base ho3 (Nat.le_of_lt hz1)
  clear hR2 hg3 hB2 ho2 ho3 hR3
  go_wp2_with fail
  go_ret2
  exact ⟨x, O, t, rfl, ho4, hO, ht, hB3⟩
end Go.Proofs.Ytfnbjjcelncliaa
