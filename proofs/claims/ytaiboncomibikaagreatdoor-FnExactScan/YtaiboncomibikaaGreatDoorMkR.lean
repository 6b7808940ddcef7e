/- Rows of entries marked: nothing outside their stretch is written, and the number stays a number. -/
import Derived.Test.YtaiboncomibikaaGreatDoorMkE
import Derived.Test.YtaiboncomibikaaGreatDoorEnJ
namespace Go.Proofs.YtaiboncomibikaaGreatDoor
open Go.RowKit
set_option linter.unusedVariables false

theorem res_frozenR {w : World} {g : Nat} {cs : Array Value} {t : TypeId} (h : w.heap[g]? = some (.cells cs t (0, 0))) : ∀ o, w.frozen? ⟨g, o, none⟩ = false := fun o => by simp [World.frozen?, h]
theorem rows_block {w : World} {lo m : Nat} {ao : Option Addr} {cap : Nat} {l : List Row} (h : OwnR rowC 7 43 w lo m (.slice ao l.length cap) l) (h0 : 0 < l.length) :
    ∃ (g : Nat) (cs : Array Value), ao = some ⟨g, 0, none⟩ ∧ lo ≤ g ∧ g < m ∧ w.heap[g]? = some (.cells cs 43 (0, 0)) ∧ l.length ≤ cap ∧ cap ≤ maxLen ∧ cs.size = cap * 7 ∧ ∀ i, i < l.length → cs[i * 7 + 4]? = some (esAt l i).vl ∧ cs[i * 7 + 5]? = some (esAt l i).vs ∧ cs[i * 7 + 6]? = some (esAt l i).vf := by
  obtain ⟨⟨hx1, hx2⟩, hx3⟩ := h
  rcases hx2 with ⟨hn, hz⟩ | ⟨g, cap', cur, hv, hb, hrow, hnc, hcm, hcs, htk⟩
  · simp only [Value.slice.injEq] at hn; omega
  · simp only [Value.slice.injEq, true_and] at hv
    obtain ⟨rfl, rfl⟩ := hv
    refine ⟨g, cur, rfl, hb, hx3 g rfl, hrow, hnc, hcm, hcs, fun i hi => ?_⟩
    have hR : ReadsR rowC 7 w (.slice (some ⟨g, 0, none⟩) l.length cap) l := ownR_reads rowC_len ⟨⟨hx1, .inr ⟨g, cap, cur, rfl, hb, hrow, hnc, hcm, hcs, htk⟩⟩, hx3⟩
    obtain ⟨b, off, e, _, _, _, hc⟩ := es_some hR (by omega)
    simp only [Option.some.injEq, Addr.mk.injEq, and_true] at e
    obtain ⟨rfl, rfl⟩ := e
    have hat := hc i _ (esAt_some hi)
    have f : ∀ o u, (rowC (esAt l i))[o]? = some u → cur[i * 7 + o]? = some u := fun o u hu => by
      have := hat o u hu
      rw [Nat.zero_add] at this
      rw [← this, cell_of_row w _ _ _ _ _ hrow]
    exact ⟨f 4 _ rfl, f 5 _ rfl, f 6 _ rfl⟩
/-- block g holds rows, their lists where they are -/
def RowsAt (w : World) (g cap : Nat) (l : List Row) : Prop :=
  ∃ cs : Array Value, w.heap[g]? = some (.cells cs 43 (0, 0)) ∧ cs.size = cap * 7 ∧ ∀ i, i < l.length → cs[i * 7 + 4]? = some (esAt l i).vl ∧ cs[i * 7 + 5]? = some (esAt l i).vs ∧ cs[i * 7 + 6]? = some (esAt l i).vf
theorem rowsAt_set {w : World} {g cap : Nat} {l : List Row} (h : RowsAt w g cap l) {j o : Nat} (ho : o < 4) (u : Value) : RowsAt (w.setCell ⟨g, j * 7 + o, none⟩ u) g cap l := by
  obtain ⟨cs, h1, h2, h3⟩ := h
  refine ⟨cs.setIfInBounds (j * 7 + o) u, heap_setCell_same w g (j * 7 + o) cs _ u h1, by simp [h2], fun i hi => ?_⟩
  obtain ⟨a, b, c⟩ := h3 i hi
  refine ⟨?_, ?_, ?_⟩
  · rw [Array.getElem?_setIfInBounds_ne (by omega)]; exact a
  · rw [Array.getElem?_setIfInBounds_ne (by omega)]; exact b
  · rw [Array.getElem?_setIfInBounds_ne (by omega)]; exact c
theorem rowsAt_block {w w' : World} {g cap : Nat} {l : List Row} (h : RowsAt w g cap l) (hb : w'.heap[g]? = w.heap[g]?) : RowsAt w' g cap l := by
  obtain ⟨cs, h1, h2, h3⟩ := h
  exact ⟨cs, hb.trans h1, h2, h3⟩
theorem rowsAt_lt {w : World} {g cap : Nat} {l : List Row} (h : RowsAt w g cap l) : g < w.heap.size := by
  obtain ⟨cs, h1, _⟩ := h; exact (Array.getElem?_eq_some_iff.1 h1).1
theorem rowsAt_cells {w : World} {g cap : Nat} {l : List Row} (h : RowsAt w g cap l) {j : Nat} (hj : j < l.length) (hc : l.length ≤ cap) :
    (∃ c0 c1 c2 c3, w.cell? ⟨g, j * 7, none⟩ = some c0 ∧ w.cell? ⟨g, j * 7 + 1, none⟩ = some c1 ∧ w.cell? ⟨g, j * 7 + 2, none⟩ = some c2 ∧ w.cell? ⟨g, j * 7 + 3, none⟩ = some c3) ∧
    w.cell? ⟨g, j * 7 + 4, none⟩ = some (esAt l j).vl ∧ w.cell? ⟨g, j * 7 + 5, none⟩ = some (esAt l j).vs ∧ w.cell? ⟨g, j * 7 + 6, none⟩ = some (esAt l j).vf ∧ (∀ o, w.frozen? ⟨g, o, none⟩ = false) := by
  obtain ⟨cs, h1, h2, h3⟩ := h
  obtain ⟨a, b, c⟩ := h3 j hj
  have hlt : ∀ o, o < 7 → ∃ u, cs[j * 7 + o]? = some u := fun o ho => ⟨_, Array.getElem?_eq_getElem (by rw [h2]; have : (j + 1) * 7 ≤ cap * 7 := Nat.mul_le_mul_right 7 (by omega); omega)⟩
  obtain ⟨c0, e0⟩ := hlt 0 (by omega)
  obtain ⟨c1, e1⟩ := hlt 1 (by omega)
  obtain ⟨c2, e2⟩ := hlt 2 (by omega)
  obtain ⟨c3, e3⟩ := hlt 3 (by omega)
  rw [Nat.add_zero] at e0
  have f : ∀ o u, cs[o]? = some u → w.cell? ⟨g, o, none⟩ = some u := fun o u hu => by rw [cell_of_row w g o _ _ _ h1]; exact hu
  exact ⟨⟨c0, c1, c2, c3, f _ _ e0, f _ _ e1, f _ _ e2, f _ _ e3⟩, f _ _ a, f _ _ b, f _ _ c, res_frozenR h1⟩
theorem ensOwn_within {w w' : World} {p q a hi : Nat} {l : List Row} (h : EnsOwn w a hi l) (hw : Within w w' p q) (hq : q ≤ a) : EnsOwn w' a hi l :=
  ensOwn_map (fun lo => q ≤ lo) (fun hl ho => enOwn_within ho hw (.inr hl)) (fun hab ha => Nat.le_trans ha hab) hq h
theorem ensOwn_hi {w : World} : ∀ {l : List Row} {a hi : Nat}, EnsOwn w a hi l → a ≤ hi := ensOwn_le
def rowM (x : Row) : Int := 4 + (x.e.list.length : Int) + 2 * (x.e.scores.length : Int) + 2 * (x.e.fields.length : Int)
def rowsM : List Row → Int
  | [] => 0
  | x :: l => rowM x + rowsM l
theorem rowM_pos (x : Row) : 0 ≤ rowM x := by unfold rowM; omega
theorem rowsM_pos : ∀ l, 0 ≤ rowsM l
  | [] => by unfold rowsM; omega
  | x :: l => by have := rowM_pos x; have := rowsM_pos l; unfold rowsM; omega
theorem rowsM_len : ∀ l : List Row, (l.length : Int) ≤ rowsM l
  | [] => by unfold rowsM; simp
  | x :: l => by have h := rowsM_len l; unfold rowsM; have : 1 ≤ rowM x := by (unfold rowM; omega)
                 rw [List.length_cons]; omega
theorem drop_es {l : List Row} {j : Nat} (h : j < l.length) : l.drop j = esAt l j :: l.drop (j + 1) := by
  rw [List.drop_eq_getElem_cons h, esAt_get h]
theorem within_set {w w' : World} {lo hi : Nat} (h : Within w w' lo hi) (g o : Nat) (u : Value) (h1 : lo ≤ g) (h2 : g < hi) : Within w (w'.setCell ⟨g, o, none⟩ u) lo hi :=
  ⟨h.os, h.tape, h.output, Nat.le_trans h.size ((Below.refl 0 w').setCell (p := ⟨g, o, none⟩) (Nat.zero_le _) u).size, fun k hk hr => (Below.heap_setCell w' ⟨g, o, none⟩ u k (by show k ≠ g; omega)).trans (h.block k hk hr)⟩

set_option maxRecDepth 100000 in
set_option maxHeartbeats 8000000 in
theorem markRows_any (v : Value) (l : List Row) (lo m hi : Nat) (w : World) (ho : OwnR rowC 7 43 w lo m v l) (hin : EnsOwn w m hi l) (hhi : hi ≤ w.heap.size) (hm : rowsM l ≤ 4194304) (hs : ∀ x ∈ l, EnSmall x.e) :
    Calls Tryz.prog 20 #[v, .int .i64 1] w fun x w' => (∃ k : Int, x = .returned (.int .i64 k) ∧ 0 < k) ∧ Within w w' lo hi := by
  have hmhi := ensOwn_le hin
  obtain ⟨ao, cap, rfl⟩ := readsR_shape (ownR_reads rowC_len ho)
  by_cases h0 : 0 < l.length
  · obtain ⟨g, cs, rfl, hg1, hg2, hrow, hnc, hcm, hcs⟩ := rows_block ho h0
    have hmlen : (l.length : Int) ≤ 4194304 := by have := rowsM_len l; omega
    have hW0 := within_refl w lo hi
    go_enter Tryz.func20, Tryz.ntmps20
    go_wp2_with fail
    go_loopw [1, 5] (fun c i wr => ∃ (j : Nat) (k : Int) (a : Nat), j ≤ l.length ∧ i = .int .i64 j ∧ c = .int .i64 k ∧ 0 < k ∧ k + rowsM (l.drop j) ≤ 4194305 ∧ m ≤ a ∧ RowsAt wr g cap l ∧ EnsOwn wr a hi (l.drop j) ∧ Within w wr lo hi) (fun _ i _ => l.length - (intOf i).toNat)
    case atStart => exact ⟨0, 1, m, Nat.zero_le _, rfl, rfl, by omega, by rw [List.drop_zero]; omega, Nat.le_refl _, ⟨cs, hrow, hcs⟩, hin, hW0⟩
    case round =>
      obtain ⟨j, k, a, hj, rfl, rfl, hk0, hk1, ham, hR, hE, hW⟩ := hrel
      by_cases hlt : j < l.length
      · have hjl : (j : Int) < (l.length : Int) := by omega
        rw [drop_es hlt] at hk1 hE
        obtain ⟨b, hab, hX, hE⟩ := hE
        have hsm := hs _ (esAt_mem hlt)
        have hrm : k + rowM (esAt l j) + rowsM (l.drop (j + 1)) ≤ 4194305 := by unfold rowsM at hk1; omega
        have hp := rowsM_pos (l.drop (j + 1))
        unfold rowM at hrm
        have hbi := ensOwn_le hE
        clear hk1
        go_wp2_with fail
        refine (mark_any k _ hk0 (by omega)).mono ?_
        rintro e w1 ⟨rfl, hb1⟩
        have V1 := within_below hb1 lo hi
        have hR1 := rowsAt_block hR (hb1.block g (rowsAt_lt hR))
        have hX1 := enOwn_kept hX hb1
        have hE1 := ensOwn_kept hE hb1
        have hW1 := within_trans hW V1
        clear hb1 V1 hR hX hE hW
        obtain ⟨⟨x0, x1, x2, x3, c0, c1, c2, c3⟩, _, _, _, fz⟩ := rowsAt_cells hR1 hlt hnc
        go_wp2_with fail
        have hR2 := rowsAt_set (rowsAt_set (rowsAt_set hR1 (j := j) (o := 0) (by omega) (.string (mk k))) (j := j) (o := 1) (by omega) (.int .i64 (k + 1))) (j := j) (o := 2) (by omega) (.int .i64 (k + 1 + 1))
        rw [Nat.add_zero] at hR2
        have S2 : Within w1 (((w1.setCell ⟨g, j * 7, none⟩ (.string (mk k))).setCell ⟨g, j * 7 + 1, none⟩ (.int .i64 (k + 1))).setCell ⟨g, j * 7 + 2, none⟩ (.int .i64 (k + 1 + 1))) lo m := within_set (within_set (within_set (within_refl w1 lo m) g (j * 7) _ hg1 hg2) g (j * 7 + 1) _ hg1 hg2) g (j * 7 + 2) _ hg1 hg2
        have hX2 := enOwn_within hX1 S2 (.inr ham)
        have hE2 := ensOwn_within hE1 S2 (by omega)
        have hW2 := within_trans hW1 (within_mono S2 (Nat.le_refl _) hmhi)
        clear c0 c1 c2 c3 fz hR1 hX1 hE1 hW1 S2
        obtain ⟨w2, hWW⟩ : ∃ W, ((w1.setCell ⟨g, j * 7, none⟩ (.string (mk k))).setCell ⟨g, j * 7 + 1, none⟩ (.int .i64 (k + 1))).setCell ⟨g, j * 7 + 2, none⟩ (.int .i64 (k + 1 + 1)) = W := ⟨_, rfl⟩
        rw [hWW] at hR2 hX2 hE2 hW2 ⊢
        clear hWW
        refine (mark_any _ _ (by omega) (by omega)).mono ?_
        rintro e w3 ⟨rfl, hb3⟩
        have V3 := within_below hb3 lo hi
        have hR3 := rowsAt_block hR2 (hb3.block g (rowsAt_lt hR2))
        have hX3 := enOwn_kept hX2 hb3
        have hE3 := ensOwn_kept hE2 hb3
        have hW3 := within_trans hW2 V3
        clear hb3 V3 hR2 hX2 hE2 hW2
        obtain ⟨⟨_, _, _, x3', _, _, _, c3⟩, c4, _, _, fz⟩ := rowsAt_cells hR3 hlt hnc
        have c4' : w3.cell? ⟨g, j * 7 + 4, none⟩ = some (.slice (esAt l j).al (esAt l j).e.list.length (esAt l j).cl) := c4
        clear c4
        go_wp2_with fail
        have hR4 := rowsAt_set hR3 (j := j) (o := 3) (by omega) (.string (mk (k + 1 + 1 + 1)))
        have S4 : Within w3 (w3.setCell ⟨g, j * 7 + 3, none⟩ (.string (mk (k + 1 + 1 + 1)))) lo m := within_set (within_refl w3 lo m) g (j * 7 + 3) _ hg1 hg2
        have hX4 := enOwn_within hX3 S4 (.inr ham)
        have hE4 := ensOwn_within hE3 S4 (by omega)
        have hW4 := within_trans hW3 (within_mono S4 (Nat.le_refl _) hmhi)
        clear c3 c4' fz hR3 hX3 hE3 hW3 S4
        obtain ⟨w4, hWW⟩ : ∃ W, w3.setCell ⟨g, j * 7 + 3, none⟩ (.string (mk (k + 1 + 1 + 1))) = W := ⟨_, rfl⟩
        rw [hWW] at hR4 hX4 hE4 hW4 ⊢
        clear hWW
        obtain ⟨A, B, hA1, hA2, hA3, hl4, hc4, hf4⟩ := hX4
        have hga : g < a := by omega
        refine (mark_own_from _ (esAt l j).e.list a A _ _ hl4 (by omega) (by omega) hsm.list).mono ?_
        rintro e w5 ⟨rfl, _, hg5⟩
        have V5 := within_grown hg5 (own_in hl4)
        have hR5 := rowsAt_block hR4 (V5.block g (rowsAt_lt hR4) (.inl hga))
        have hE5 := ensOwn_within hE4 V5 (by omega)
        have hc5 := ownR_within hc4 V5 (.inr (Nat.le_refl _))
        have hf5 := ownR_within hf4 V5 (.inr hA2)
        have hW5 := within_trans hW4 (within_mono V5 (by omega) (by omega))
        clear hg5 V5 hR4 hE4 hl4 hc4 hf4 hW4
        obtain ⟨_, _, c5, _, _⟩ := rowsAt_cells hR5 hlt hnc
        have c5' : w5.cell? ⟨g, j * 7 + 5, none⟩ = some (.slice (esAt l j).as_ (esAt l j).e.scores.length (esAt l j).cs) := c5
        clear c5
        go_wp2_with fail
        refine (markScore_own _ (esAt l j).e.scores A B _ _ hc5 (by omega) (by omega) hsm.scores).mono ?_
        rintro e w6 ⟨rfl, _, hg6⟩
        have V6 := within_grown hg6 (ownR_in hc5)
        have hR6 := rowsAt_block hR5 (V6.block g (rowsAt_lt hR5) (.inl (by omega)))
        have hE6 := ensOwn_within hE5 V6 (by omega)
        have hf6 := ownR_within hf5 V6 (.inr (Nat.le_refl _))
        have hW6 := within_trans hW5 (within_mono V6 (by omega) (by omega))
        clear hg6 V6 hR5 hE5 hc5 hf5 hW5 c5'
        obtain ⟨_, _, _, c6, _⟩ := rowsAt_cells hR6 hlt hnc
        have c6' : w6.cell? ⟨g, j * 7 + 6, none⟩ = some (.slice (esAt l j).af (esAt l j).e.fields.length (esAt l j).cf) := c6
        clear c6
        go_wp2_with fail
        refine (markPair_own _ (esAt l j).e.fields B b _ _ hf6 (by omega) (by omega) hsm.fields).mono ?_
        rintro e w7 ⟨rfl, _, hg7⟩
        have V7 := within_grown hg7 (ownR_in hf6)
        have hR7 := rowsAt_block hR6 (V7.block g (rowsAt_lt hR6) (.inl (by omega)))
        have hE7 := ensOwn_within hE6 V7 (Nat.le_refl _)
        have hW7 := within_trans hW6 (within_mono V7 (by omega) (by omega))
        clear hg7 V7 hR6 hE6 hf6 hW6 c6'
        have hlt' := hlt
        go_wp2_with fail
        go_roundw
        case rel => exact ⟨j + 1, _, b, hlt', by go_num, rfl, by omega, by omega, by omega, hR7, hE7, hW7⟩
        case measure => simp [intOf]; omega
      · obtain rfl : j = l.length := by omega
        go_wp2_with fail
        go_ret
        exact ⟨⟨k, rfl, hk0⟩, hW⟩
  · obtain rfl : l = [] := List.length_eq_zero_iff.1 (by omega)
    go_enter Tryz.func20, Tryz.ntmps20
    go_wp2_with fail
    refine wp_loop_rounds 1 ?_
    rw [rounds_succ]
    go_wp2_with fail
    go_ret
    exact ⟨⟨1, rfl, by omega⟩, within_refl _ _ _⟩
set_option maxHeartbeats 2000000 in
theorem markBase_any (n : Int) (v : Value) (l : List Row) (lo hi : Nat) (w : World) (ho : EsFor w lo hi v l) (hhi : hi ≤ w.heap.size) (hm : rowsM l ≤ 4194304) (hs : ∀ x ∈ l, EnSmall x.e) :
    Calls Tryz.prog 10 #[bsV n v, .int .i64 1] w fun x w' => (∃ k : Int, x = .returned (.int .i64 k) ∧ 0 < k) ∧ Within w w' lo hi := by
  obtain ⟨m, hm1, hm2, hrow, hin⟩ := ho
  obtain ⟨ao, cap, rfl⟩ := readsR_shape (ownR_reads rowC_len hrow)
  go_enter Tryz.func10, Tryz.ntmps10
  go_wp2_with fail
  have hb0 : Below w.heap.size w (w.alloc (.cells #[.int .i64 n, .slice ao l.length cap] 31)) := (Below.refl _ w).alloc (Nat.le_refl _) _
  obtain ⟨w0, hW⟩ : ∃ W, w.alloc (.cells #[.int .i64 n, .slice ao l.length cap] 31) = W := ⟨_, rfl⟩
  rw [hW] at hb0 ⊢
  clear hW
  refine (markRows_any _ l lo m hi _ (ownR_kept hrow hb0) (ensOwn_kept hin hb0) (Nat.le_trans hhi hb0.size) hm hs).mono ?_
  rintro e w1 ⟨⟨k, rfl, hk⟩, hw⟩
  have hW := within_trans (within_below hb0 lo hi) hw
  go_wp2_with fail
  go_ret
  exact ⟨⟨k, rfl, hk⟩, hW⟩
end Go.Proofs.YtaiboncomibikaaGreatDoor
