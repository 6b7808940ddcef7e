/- Several texts in one: MkR MkS MkW MkX. -/
import Derived.Test.YtooomgffcamijaaGreatMkE
import Derived.Test.YtooomgffcamijaaGreatEnJ
/- Rows of entries marked: nothing outside their stretch is written, and the number stays a number. -/
namespace Go.Proofs.YtooomgffcamijaaGreat
open Go.RowKit
set_option linter.unusedVariables false

theorem res_frozenR {w : World} {g : Nat} {cs : Array Value} {t : TypeId} (h : w.heap[g]? = some (.cells cs t (0, 0))) : ∀ o, w.frozen? ⟨g, o, none⟩ = false := fun o => by simp [World.frozen?, h]
theorem rows_block {w : World} {lo m : Nat} {ao : Option Addr} {cap : Nat} {l : List Row} (h : OwnR rowC 7 53 w lo m (.slice ao l.length cap) l) (h0 : 0 < l.length) :
    ∃ (g : Nat) (cs : Array Value), ao = some ⟨g, 0, none⟩ ∧ lo ≤ g ∧ g < m ∧ w.heap[g]? = some (.cells cs 53 (0, 0)) ∧ l.length ≤ cap ∧ cap ≤ maxLen ∧ cs.size = cap * 7 ∧ ∀ i, i < l.length → cs[i * 7 + 4]? = some (esAt l i).vl ∧ cs[i * 7 + 5]? = some (esAt l i).vs ∧ cs[i * 7 + 6]? = some (esAt l i).vf := by
  obtain ⟨⟨hx1, hx2⟩, hx3⟩ := h
  rcases hx2 with ⟨hn, hz⟩ | ⟨g, cap', cur, hv, hb, hrow, hnc, hcm, hcs, htk⟩
  · simp only [Value.slice.injEq] at hn; omega
  · simp only [Value.slice.injEq, true_and] at hv
    obtain ⟨rfl, rfl⟩ := hv
    refine ⟨g, cur, rfl, hb, hx3 g rfl, hrow, hnc, hcm, hcs, fun i hi => ?_⟩
    have hR : ReadsR rowC 7 w (.slice (some ⟨g, 0, none⟩) l.length cap) l := ownR_reads rowC_len ⟨⟨hx1, .inr ⟨g, cap, cur, rfl, hb, hrow, hnc, hcm, hcs, htk⟩⟩, hx3⟩
    obtain ⟨b, off, e, _, _, _, hc⟩ := es_some hR (by omega)
    simp only [Option.some.injEq, Addr.mk.injEq, and_true] at e
    obtain ⟨rfl, rfl⟩ := e
    have hat := hc i _ (esAt_some hi)
    have f : ∀ o u, (rowC (esAt l i))[o]? = some u → cur[i * 7 + o]? = some u := fun o u hu => by
      have := hat o u hu
      rw [Nat.zero_add] at this
      rw [← this, cell_of_row w _ _ _ _ _ hrow]
    exact ⟨f 4 _ rfl, f 5 _ rfl, f 6 _ rfl⟩
/-- block g holds rows, their lists where they are -/
def RowsAt (w : World) (g cap : Nat) (l : List Row) : Prop :=
  ∃ cs : Array Value, w.heap[g]? = some (.cells cs 53 (0, 0)) ∧ cs.size = cap * 7 ∧ ∀ i, i < l.length → cs[i * 7 + 4]? = some (esAt l i).vl ∧ cs[i * 7 + 5]? = some (esAt l i).vs ∧ cs[i * 7 + 6]? = some (esAt l i).vf
theorem rowsAt_set {w : World} {g cap : Nat} {l : List Row} (h : RowsAt w g cap l) {j o : Nat} (ho : o < 4) (u : Value) : RowsAt (w.setCell ⟨g, j * 7 + o, none⟩ u) g cap l := by
  obtain ⟨cs, h1, h2, h3⟩ := h
  refine ⟨cs.setIfInBounds (j * 7 + o) u, heap_setCell_same w g (j * 7 + o) cs _ u h1, by simp [h2], fun i hi => ?_⟩
  obtain ⟨a, b, c⟩ := h3 i hi
  refine ⟨?_, ?_, ?_⟩
  · rw [Array.getElem?_setIfInBounds_ne (by omega)]; exact a
  · rw [Array.getElem?_setIfInBounds_ne (by omega)]; exact b
  · rw [Array.getElem?_setIfInBounds_ne (by omega)]; exact c
theorem rowsAt_block {w w' : World} {g cap : Nat} {l : List Row} (h : RowsAt w g cap l) (hb : w'.heap[g]? = w.heap[g]?) : RowsAt w' g cap l := by
  obtain ⟨cs, h1, h2, h3⟩ := h
  exact ⟨cs, hb.trans h1, h2, h3⟩
theorem rowsAt_lt {w : World} {g cap : Nat} {l : List Row} (h : RowsAt w g cap l) : g < w.heap.size := by
  obtain ⟨cs, h1, _⟩ := h; exact (Array.getElem?_eq_some_iff.1 h1).1
theorem rowsAt_cells {w : World} {g cap : Nat} {l : List Row} (h : RowsAt w g cap l) {j : Nat} (hj : j < l.length) (hc : l.length ≤ cap) :
    (∃ c0 c1 c2 c3, w.cell? ⟨g, j * 7, none⟩ = some c0 ∧ w.cell? ⟨g, j * 7 + 1, none⟩ = some c1 ∧ w.cell? ⟨g, j * 7 + 2, none⟩ = some c2 ∧ w.cell? ⟨g, j * 7 + 3, none⟩ = some c3) ∧
    w.cell? ⟨g, j * 7 + 4, none⟩ = some (esAt l j).vl ∧ w.cell? ⟨g, j * 7 + 5, none⟩ = some (esAt l j).vs ∧ w.cell? ⟨g, j * 7 + 6, none⟩ = some (esAt l j).vf ∧ (∀ o, w.frozen? ⟨g, o, none⟩ = false) := by
  obtain ⟨cs, h1, h2, h3⟩ := h
  obtain ⟨a, b, c⟩ := h3 j hj
  have hlt : ∀ o, o < 7 → ∃ u, cs[j * 7 + o]? = some u := fun o ho => ⟨_, Array.getElem?_eq_getElem (by rw [h2]; have : (j + 1) * 7 ≤ cap * 7 := Nat.mul_le_mul_right 7 (by omega); omega)⟩
  obtain ⟨c0, e0⟩ := hlt 0 (by omega)
  obtain ⟨c1, e1⟩ := hlt 1 (by omega)
  obtain ⟨c2, e2⟩ := hlt 2 (by omega)
  obtain ⟨c3, e3⟩ := hlt 3 (by omega)
  rw [Nat.add_zero] at e0
  have f : ∀ o u, cs[o]? = some u → w.cell? ⟨g, o, none⟩ = some u := fun o u hu => by rw [cell_of_row w g o _ _ _ h1]; exact hu
  exact ⟨⟨c0, c1, c2, c3, f _ _ e0, f _ _ e1, f _ _ e2, f _ _ e3⟩, f _ _ a, f _ _ b, f _ _ c, res_frozenR h1⟩
theorem ensOwn_within {w w' : World} {p q a hi : Nat} {l : List Row} (h : EnsOwn w a hi l) (hw : Within w w' p q) (hq : q ≤ a) : EnsOwn w' a hi l :=
  ensOwn_map (fun lo => q ≤ lo) (fun hl ho => enOwn_within ho hw (.inr hl)) (fun hab ha => Nat.le_trans ha hab) hq h
theorem ensOwn_hi {w : World} : ∀ {l : List Row} {a hi : Nat}, EnsOwn w a hi l → a ≤ hi := ensOwn_le
def rowM (x : Row) : Int := 4 + (x.e.list.length : Int) + 2 * (x.e.scores.length : Int) + 2 * (x.e.fields.length : Int)
def rowsM : List Row → Int
  | [] => 0
  | x :: l => rowM x + rowsM l
theorem rowM_pos (x : Row) : 0 ≤ rowM x := by unfold rowM; omega
theorem rowsM_pos : ∀ l, 0 ≤ rowsM l
  | [] => by unfold rowsM; omega
  | x :: l => by have := rowM_pos x; have := rowsM_pos l; unfold rowsM; omega
theorem rowsM_len : ∀ l : List Row, (l.length : Int) ≤ rowsM l
  | [] => by unfold rowsM; simp
  | x :: l => by have h := rowsM_len l; unfold rowsM; have : 1 ≤ rowM x := by (unfold rowM; omega)
                 rw [List.length_cons]; omega
theorem drop_es {l : List Row} {j : Nat} (h : j < l.length) : l.drop j = esAt l j :: l.drop (j + 1) := by
  rw [List.drop_eq_getElem_cons h, esAt_get h]
theorem within_set {w w' : World} {lo hi : Nat} (h : Within w w' lo hi) (g o : Nat) (u : Value) (h1 : lo ≤ g) (h2 : g < hi) : Within w (w'.setCell ⟨g, o, none⟩ u) lo hi :=
  ⟨h.os, h.tape, h.output, Nat.le_trans h.size ((Below.refl 0 w').setCell (p := ⟨g, o, none⟩) (Nat.zero_le _) u).size, fun k hk hr => (Below.heap_setCell w' ⟨g, o, none⟩ u k (by show k ≠ g; omega)).trans (h.block k hk hr)⟩

set_option maxRecDepth 100000 in
set_option maxHeartbeats 8000000 in
theorem markRows_any (v : Value) (l : List Row) (lo m hi : Nat) (w : World) (ho : OwnR rowC 7 53 w lo m v l) (hin : EnsOwn w m hi l) (hhi : hi ≤ w.heap.size) (hm : rowsM l ≤ 4194304) (hs : ∀ x ∈ l, EnSmall x.e) :
    Calls Tryz.prog 20 #[v, .int .i64 1] w fun x w' => (∃ k : Int, x = .returned (.int .i64 k) ∧ 0 < k) ∧ Within w w' lo hi := by
  have hmhi := ensOwn_le hin
  obtain ⟨ao, cap, rfl⟩ := readsR_shape (ownR_reads rowC_len ho)
  by_cases h0 : 0 < l.length
  · obtain ⟨g, cs, rfl, hg1, hg2, hrow, hnc, hcm, hcs⟩ := rows_block ho h0
    have hmlen : (l.length : Int) ≤ 4194304 := by have := rowsM_len l; omega
    have hW0 := within_refl w lo hi
    go_enter Tryz.func20, Tryz.ntmps20
    go_wp2_with fail
    go_loopw [1, 5] (fun c i wr => ∃ (j : Nat) (k : Int) (a : Nat), j ≤ l.length ∧ i = .int .i64 j ∧ c = .int .i64 k ∧ 0 < k ∧ k + rowsM (l.drop j) ≤ 4194305 ∧ m ≤ a ∧ RowsAt wr g cap l ∧ EnsOwn wr a hi (l.drop j) ∧ Within w wr lo hi) (fun _ i _ => l.length - (intOf i).toNat)
    case atStart => exact ⟨0, 1, m, Nat.zero_le _, rfl, rfl, by omega, by rw [List.drop_zero]; omega, Nat.le_refl _, ⟨cs, hrow, hcs⟩, hin, hW0⟩
    case round =>
      obtain ⟨j, k, a, hj, rfl, rfl, hk0, hk1, ham, hR, hE, hW⟩ := hrel
      by_cases hlt : j < l.length
      · have hjl : (j : Int) < (l.length : Int) := by omega
        rw [drop_es hlt] at hk1 hE
        obtain ⟨b, hab, hX, hE⟩ := hE
        have hsm := hs _ (esAt_mem hlt)
        have hrm : k + rowM (esAt l j) + rowsM (l.drop (j + 1)) ≤ 4194305 := by unfold rowsM at hk1; omega
        have hp := rowsM_pos (l.drop (j + 1))
        unfold rowM at hrm
        have hbi := ensOwn_le hE
        clear hk1
        go_wp2_with fail
        refine (mark_any k _ hk0 (by omega)).mono ?_
        rintro e w1 ⟨rfl, hb1⟩
        have V1 := within_below hb1 lo hi
        have hR1 := rowsAt_block hR (hb1.block g (rowsAt_lt hR))
        have hX1 := enOwn_kept hX hb1
        have hE1 := ensOwn_kept hE hb1
        have hW1 := within_trans hW V1
        clear hb1 V1 hR hX hE hW
        obtain ⟨⟨x0, x1, x2, x3, c0, c1, c2, c3⟩, _, _, _, fz⟩ := rowsAt_cells hR1 hlt hnc
        go_wp2_with fail
        have hR2 := rowsAt_set (rowsAt_set (rowsAt_set hR1 (j := j) (o := 0) (by omega) (.string (mk k))) (j := j) (o := 1) (by omega) (.int .i64 (k + 1))) (j := j) (o := 2) (by omega) (.int .i64 (k + 1 + 1))
        rw [Nat.add_zero] at hR2
        have S2 : Within w1 (((w1.setCell ⟨g, j * 7, none⟩ (.string (mk k))).setCell ⟨g, j * 7 + 1, none⟩ (.int .i64 (k + 1))).setCell ⟨g, j * 7 + 2, none⟩ (.int .i64 (k + 1 + 1))) lo m := within_set (within_set (within_set (within_refl w1 lo m) g (j * 7) _ hg1 hg2) g (j * 7 + 1) _ hg1 hg2) g (j * 7 + 2) _ hg1 hg2
        have hX2 := enOwn_within hX1 S2 (.inr ham)
        have hE2 := ensOwn_within hE1 S2 (by omega)
        have hW2 := within_trans hW1 (within_mono S2 (Nat.le_refl _) hmhi)
        clear c0 c1 c2 c3 fz hR1 hX1 hE1 hW1 S2
        obtain ⟨w2, hWW⟩ : ∃ W, ((w1.setCell ⟨g, j * 7, none⟩ (.string (mk k))).setCell ⟨g, j * 7 + 1, none⟩ (.int .i64 (k + 1))).setCell ⟨g, j * 7 + 2, none⟩ (.int .i64 (k + 1 + 1)) = W := ⟨_, rfl⟩
        rw [hWW] at hR2 hX2 hE2 hW2 ⊢
        clear hWW
        refine (mark_any _ _ (by omega) (by omega)).mono ?_
        rintro e w3 ⟨rfl, hb3⟩
        have V3 := within_below hb3 lo hi
        have hR3 := rowsAt_block hR2 (hb3.block g (rowsAt_lt hR2))
        have hX3 := enOwn_kept hX2 hb3
        have hE3 := ensOwn_kept hE2 hb3
        have hW3 := within_trans hW2 V3
        clear hb3 V3 hR2 hX2 hE2 hW2
        obtain ⟨⟨_, _, _, x3', _, _, _, c3⟩, c4, _, _, fz⟩ := rowsAt_cells hR3 hlt hnc
        have c4' : w3.cell? ⟨g, j * 7 + 4, none⟩ = some (.slice (esAt l j).al (esAt l j).e.list.length (esAt l j).cl) := c4
        clear c4
        go_wp2_with fail
        have hR4 := rowsAt_set hR3 (j := j) (o := 3) (by omega) (.string (mk (k + 1 + 1 + 1)))
        have S4 : Within w3 (w3.setCell ⟨g, j * 7 + 3, none⟩ (.string (mk (k + 1 + 1 + 1)))) lo m := within_set (within_refl w3 lo m) g (j * 7 + 3) _ hg1 hg2
        have hX4 := enOwn_within hX3 S4 (.inr ham)
        have hE4 := ensOwn_within hE3 S4 (by omega)
        have hW4 := within_trans hW3 (within_mono S4 (Nat.le_refl _) hmhi)
        clear c3 c4' fz hR3 hX3 hE3 hW3 S4
        obtain ⟨w4, hWW⟩ : ∃ W, w3.setCell ⟨g, j * 7 + 3, none⟩ (.string (mk (k + 1 + 1 + 1))) = W := ⟨_, rfl⟩
        rw [hWW] at hR4 hX4 hE4 hW4 ⊢
        clear hWW
        obtain ⟨A, B, hA1, hA2, hA3, hl4, hc4, hf4⟩ := hX4
        have hga : g < a := by omega
        refine (mark_own_from _ (esAt l j).e.list a A _ _ hl4 (by omega) (by omega) hsm.list).mono ?_
        rintro e w5 ⟨rfl, _, hg5⟩
        have V5 := within_grown hg5 (own_in hl4)
        have hR5 := rowsAt_block hR4 (V5.block g (rowsAt_lt hR4) (.inl hga))
        have hE5 := ensOwn_within hE4 V5 (by omega)
        have hc5 := ownR_within hc4 V5 (.inr (Nat.le_refl _))
        have hf5 := ownR_within hf4 V5 (.inr hA2)
        have hW5 := within_trans hW4 (within_mono V5 (by omega) (by omega))
        clear hg5 V5 hR4 hE4 hl4 hc4 hf4 hW4
        obtain ⟨_, _, c5, _, _⟩ := rowsAt_cells hR5 hlt hnc
        have c5' : w5.cell? ⟨g, j * 7 + 5, none⟩ = some (.slice (esAt l j).as_ (esAt l j).e.scores.length (esAt l j).cs) := c5
        clear c5
        go_wp2_with fail
        refine (markScore_own _ (esAt l j).e.scores A B _ _ hc5 (by omega) (by omega) hsm.scores).mono ?_
        rintro e w6 ⟨rfl, _, hg6⟩
        have V6 := within_grown hg6 (ownR_in hc5)
        have hR6 := rowsAt_block hR5 (V6.block g (rowsAt_lt hR5) (.inl (by omega)))
        have hE6 := ensOwn_within hE5 V6 (by omega)
        have hf6 := ownR_within hf5 V6 (.inr (Nat.le_refl _))
        have hW6 := within_trans hW5 (within_mono V6 (by omega) (by omega))
        clear hg6 V6 hR5 hE5 hc5 hf5 hW5 c5'
        obtain ⟨_, _, _, c6, _⟩ := rowsAt_cells hR6 hlt hnc
        have c6' : w6.cell? ⟨g, j * 7 + 6, none⟩ = some (.slice (esAt l j).af (esAt l j).e.fields.length (esAt l j).cf) := c6
        clear c6
        go_wp2_with fail
        refine (markPair_own _ (esAt l j).e.fields B b _ _ hf6 (by omega) (by omega) hsm.fields).mono ?_
        rintro e w7 ⟨rfl, _, hg7⟩
        have V7 := within_grown hg7 (ownR_in hf6)
        have hR7 := rowsAt_block hR6 (V7.block g (rowsAt_lt hR6) (.inl (by omega)))
        have hE7 := ensOwn_within hE6 V7 (Nat.le_refl _)
        have hW7 := within_trans hW6 (within_mono V7 (by omega) (by omega))
        clear hg7 V7 hR6 hE6 hf6 hW6 c6'
        have hlt' := hlt
        go_wp2_with fail
        go_roundw
        case rel => exact ⟨j + 1, _, b, hlt', by go_num, rfl, by omega, by omega, by omega, hR7, hE7, hW7⟩
        case measure => simp [intOf]; omega
      · obtain rfl : j = l.length := by omega
        go_wp2_with fail
        go_ret
        exact ⟨⟨k, rfl, hk0⟩, hW⟩
  · obtain rfl : l = [] := List.length_eq_zero_iff.1 (by omega)
    go_enter Tryz.func20, Tryz.ntmps20
    go_wp2_with fail
    refine wp_loop_rounds 1 ?_
    rw [rounds_succ]
    go_wp2_with fail
    go_ret
    exact ⟨⟨1, rfl, by omega⟩, within_refl _ _ _⟩
set_option maxHeartbeats 2000000 in
theorem markBase_any (n : Int) (v : Value) (l : List Row) (lo hi : Nat) (w : World) (ho : EsFor w lo hi v l) (hhi : hi ≤ w.heap.size) (hm : rowsM l ≤ 4194304) (hs : ∀ x ∈ l, EnSmall x.e) :
    Calls Tryz.prog 9 #[bsV n v, .int .i64 1] w fun x w' => (∃ k : Int, x = .returned (.int .i64 k) ∧ 0 < k) ∧ Within w w' lo hi := by
  obtain ⟨m, hm1, hm2, hrow, hin⟩ := ho
  obtain ⟨ao, cap, rfl⟩ := readsR_shape (ownR_reads rowC_len hrow)
  go_enter Tryz.func9, Tryz.ntmps9
  go_wp2_with fail
  have hb0 : Below w.heap.size w (w.alloc (.cells #[.int .i64 n, .slice ao l.length cap] 28)) := (Below.refl _ w).alloc (Nat.le_refl _) _
  obtain ⟨w0, hW⟩ : ∃ W, w.alloc (.cells #[.int .i64 n, .slice ao l.length cap] 28) = W := ⟨_, rfl⟩
  rw [hW] at hb0 ⊢
  clear hW
  refine (markRows_any _ l lo m hi _ (ownR_kept hrow hb0) (ensOwn_kept hin hb0) (Nat.le_trans hhi hb0.size) hm hs).mono ?_
  rintro e w1 ⟨⟨k, rfl, hk⟩, hw⟩
  have hW := within_trans (within_below hb0 lo hi) hw
  go_wp2_with fail
  go_ret
  exact ⟨⟨k, rfl, hk⟩, hW⟩
end Go.Proofs.YtooomgffcamijaaGreat
/- How much is left of a purse behind entries, and what it paid. -/
namespace Go.Proofs.YtooomgffcamijaaGreat
open Go.RowKit
set_option linter.unusedVariables false

def entW (e : Ent) : Int := (e.list.length : Int) + (e.scores.length : Int) + (e.fields.length : Int)
def rowsW : List Row → Int
  | [] => 0
  | x :: l => entW x.e + rowsW l
theorem rowsW_step {l : List Row} {j : Nat} (h : j < l.length) : rowsW (l.drop j) = entW (esAt l j).e + rowsW (l.drop (j + 1)) := by
  rw [drop_es h]; rfl
theorem rowsM_le : ∀ l : List Row, rowsM l ≤ 4 * (l.length : Int) + 4 * rowsW l
  | [] => by unfold rowsM rowsW; simp
  | x :: l => by
    have h := rowsM_le l
    unfold rowsM rowsW rowM entW
    rw [List.length_cons]
    omega
theorem sz_pay {l : List ByteArray} {left : Int} (h : 0 ≤ sz l left) : sz l left + (l.length : Int) ≤ left := by
  have h0 : sz l left = szTo l left l.length := by
    unfold sz at h ⊢; split at h
    · omega
    · rename_i hn; exact if_neg hn
  have h1 := szTo_mono (l := l) (left := left) (Nat.zero_le l.length)
  have h2 : szTo l left 0 = left - l.length := by simp [szTo]
  omega
theorem szW_pay {α : Type} {wt : α → Int} (hw : ∀ x, 0 ≤ wt x) {l : List α} {left : Int} (h : 0 ≤ szW wt l left) : szW wt l left + (l.length : Int) ≤ left := by
  have h0 : szW wt l left = szWTo wt l left l.length := by
    unfold szW at h ⊢; split at h
    · omega
    · rename_i hn; exact if_neg hn
  have h1 := szWTo_mono hw (l := l) (left := left) (Nat.zero_le l.length)
  have h2 : szWTo wt l left 0 = left - l.length := by simp [szWTo]
  omega
set_option maxHeartbeats 4000000 in
theorem szEntryP_any (e : Ent) (vl vs vf : Value) (left : Int) (w : World) (hr : EnReads w vl vs vf e) (hf : EnFit e) (hl : 0 ≤ left) (hl2 : left ≤ 1048576) :
    Calls Tryz.prog 22 #[enV e vl vs vf, .int .i64 left] w fun x w' => (∃ n : Int, x = .returned (.int .i64 n) ∧ (n < 0 ∨ 0 ≤ n ∧ n ≤ left ∧ EnSmall e ∧ n + entW e ≤ left)) ∧ Below w.heap.size w w' := by
  obtain ⟨al, cl, as_, cs, af, cf, rfl, rfl, rfl⟩ := enReads_shape hr
  have hk := hf.key
  have ht := hf.text
  unfold maxLen at hk ht
  have hB0 : Below w.heap.size w (w.alloc (.cells #[.string e.key, .int .i64 e.til, .int .i64 e.kind, .string e.text, .slice al e.list.length cl, .slice as_ e.scores.length cs, .slice af e.fields.length cf] 49)) := (Below.refl _ w).alloc (Nat.le_refl _) _
  have hrow := heap_alloc_new w (.cells #[.string e.key, .int .i64 e.til, .int .i64 e.kind, .string e.text, .slice al e.list.length cl, .slice as_ e.scores.length cs, .slice af e.fields.length cf] 49)
  have HROW : Hid _ := hrow
  clear hrow
  rcases Int.lt_or_le (left - (e.key.size : Int)) 0 with h1 | h1
  · go_enter Tryz.func22, Tryz.ntmps22
    go_wp2_with fail
    go_ret
    exact ⟨⟨_, rfl, .inl (by omega)⟩, hB0⟩
  rcases Int.lt_or_le (left - (e.key.size : Int) - (e.text.size : Int)) 0 with h2 | h2
  · go_enter Tryz.func22, Tryz.ntmps22
    go_wp2_with fail
    go_ret
    exact ⟨⟨_, rfl, .inl (by omega)⟩, hB0⟩
  obtain ⟨L1, hL1⟩ : ∃ x, left - (e.key.size : Int) - (e.text.size : Int) = x := ⟨_, rfl⟩
  have hL : L1 ≤ left := by omega
  go_enter Tryz.func22, Tryz.ntmps22
  go_wp2_with fail
  refine (sz_any _ e.list _ _ (reads_kept hr.l hB0) (by omega) (by omega) hf.list hf.listn).mono ?_
  rintro x w' ⟨rfl, rfl⟩
  rw [hL1] at *
  rcases Int.lt_or_le (sz e.list L1) 0 with h3 | h3
  · go_wp2_with fail
    go_ret
    exact ⟨⟨_, rfl, .inl (by omega)⟩, hB0⟩
  have hq := sz_len h3
  have hn1 := hq.1
  have hn2 := hq.2.1
  clear hq
  go_wp2_with fail
  refine (szScoreS_any _ e.scores _ _ (readsR_kept hr.s hB0) (by omega) (by omega) hf.scores hf.scoresn).mono ?_
  rintro x w1 ⟨rfl, hb1⟩
  have hB1 := hB0.trans (hb1.mono hB0.size)
  have hx := box7_row ((hb1.block w.heap.size (by simp)).trans HROW.out)
  have hx6 := hx.c6
  clear hx hb1
  rcases Int.lt_or_le (szW scW e.scores (sz e.list L1)) 0 with h4 | h4
  · go_wp2_with fail
    go_ret
    exact ⟨⟨_, rfl, .inl (by omega)⟩, hB1⟩
  have hq := szW_len scW_pos h4
  have hn3 := hq.1
  have hn4 := hq.2.1
  clear hq
  go_wp2_with fail
  refine (szPairS_any _ e.fields _ _ (readsR_kept hr.f hB1) (by omega) (by omega) hf.fields hf.fieldsn).mono ?_
  rintro x w2 ⟨rfl, hb2⟩
  have hB2 := hB1.trans (hb2.mono hB1.size)
  clear hb2
  rcases Int.lt_or_le (szW prW e.fields (szW scW e.scores (sz e.list L1))) 0 with h5 | h5
  · go_wp2_with fail
    go_ret
    exact ⟨⟨_, rfl, .inl (by omega)⟩, hB2⟩
  have hq := szW_len prW_pos h5
  have hn5 := hq.1
  have hn6 := hq.2.1
  clear hq
  go_wp2_with fail
  go_ret
  have p1 := sz_pay h3
  have p2 := szW_pay scW_pos h4
  have p3 := szW_pay prW_pos h5
  exact ⟨⟨_, rfl, .inr ⟨h5, by omega, ⟨by omega, by omega, by omega, by omega, by omega⟩, by unfold entW; omega⟩⟩, hB2⟩
set_option maxHeartbeats 4000000 in
theorem szEntrySP_any (v : Value) (l : List Row) (left : Int) (w : World) (hr : EsReads w v l) (hf : ∀ x ∈ l, EnFit x.e) (hlen : l.length ≤ maxLen) (hl : 0 ≤ left) (hl2 : left ≤ 1048576) :
    Calls Tryz.prog 11 #[v, .int .i64 left] w fun x w' => (∃ n : Int, x = .returned (.int .i64 n) ∧ (n < 0 ∨ 0 ≤ n ∧ n ≤ left ∧ EsSmall l ∧ n + (l.length : Int) + rowsW l ≤ left)) ∧ Below w.heap.size w w' := by
  obtain ⟨ao, cap, rfl⟩ := readsR_shape hr.rows
  unfold maxLen at hlen
  rcases Int.lt_or_le (left - (l.length : Int)) 0 with h1 | h1
  · go_enter Tryz.func11, Tryz.ntmps11
    go_wp2_with fail
    go_ret
    exact ⟨⟨_, rfl, .inl (by omega)⟩, Below.refl _ _⟩
  · have HLEN : Hid (l.length ≤ 1048576) := by show _ ≤ _; omega
    go_enter Tryz.func11, Tryz.ntmps11
    go_wp2_with fail
    go_loopw [1, 5] (fun c i wr => ∃ (k : Nat) (n : Int), k ≤ l.length ∧ i = .int .i64 k ∧ c = .int .i64 n ∧ 0 ≤ n ∧ n ≤ left ∧ n + (l.length : Int) + (rowsW l - rowsW (l.drop k)) ≤ left ∧ (∀ j, j < k → EnSmall (esAt l j).e) ∧ Below w.heap.size w wr) (fun _ i _ => l.length - (intOf i).toNat)
    case atStart => exact ⟨0, _, Nat.zero_le _, rfl, rfl, h1, by omega, by rw [List.drop_zero]; omega, fun j hj => by omega, Below.refl _ _⟩
    case round =>
      obtain ⟨k, n, hk, rfl, rfl, hn0, hn1, hpay, hsm, hB⟩ := hrel
      have HSM : Hid (∀ j, j < k → EnSmall (esAt l j).e) := hsm
      clear hsm
      by_cases hlt : k < l.length
      · obtain ⟨b, off, rfl, hb, hnc, hcm, hc⟩ := es_some hr.rows (by omega)
        obtain ⟨c0, c1, c2, c3, c4, c5, c6⟩ := es_cells hc hB hb hlt
        have hk1 : (k : Int) < (l.length : Int) := by omega
        have hin := rowIn_kept (hr.ins _ (esAt_mem hlt)) hB
        have hff := hf _ (esAt_mem hlt)
        clear hc hnc hcm
        go_wp2_with fail
        refine (szEntryP_any (esAt l k).e _ _ _ n _ hin hff hn0 (by omega)).mono ?_
        rintro x w3 ⟨⟨m, rfl, hm⟩, hb3⟩
        have hB3 := hB.trans (hb3.mono hB.size)
        clear hb3 hB c0 c1 c2 c3 c4 c5 c6 hin hff
        rcases hm with hm | ⟨hm0, hm1, hms, hmp⟩
        · go_wp2_with fail
          go_ret
          exact ⟨⟨_, rfl, .inl (by omega)⟩, hB3⟩
        · have HMS : Hid _ := hms
          clear hms
          go_wp2_with fail
          go_roundw
          case rel => exact ⟨k + 1, m, hlt, by go_num, rfl, hm0, by omega, by rw [rowsW_step hlt] at hpay; omega, fun j hj => by
            by_cases e : j = k
            · rw [e]; exact HMS.out
            · exact HSM.out j (by omega), hB3⟩
          case measure => simp [intOf]; omega
      · obtain rfl : k = l.length := by omega
        go_wp2_with fail
        go_ret
        refine ⟨⟨n, rfl, .inr ⟨hn0, hn1, ⟨HLEN.out, fun x hx => ?_⟩, by rw [List.drop_length] at hpay; unfold rowsW at hpay ⊢; simpa using hpay⟩⟩, hB⟩
        obtain ⟨j, hj, rfl⟩ := List.getElem_of_mem hx
        have := HSM.out j hj
        rwa [esAt_get hj] at this

/-! ### copies: a row's lists each in stretches of their own, one row behind the other -/
set_option maxHeartbeats 4000000 in
theorem szBaseP_any (n : Int) (v : Value) (l : List Row) (left : Int) (w : World) (hr : EsReads w v l) (hf : ∀ x ∈ l, EnFit x.e) (hlen : l.length ≤ maxLen) (hl : 0 ≤ left) (hl2 : left ≤ 1048576) :
    Calls Tryz.prog 4 #[bsV n v, .int .i64 left] w fun x w' => (∃ m : Int, x = .returned (.int .i64 m) ∧ (m < 0 ∨ 0 ≤ m ∧ m ≤ left ∧ EsSmall l ∧ m + (l.length : Int) + rowsW l ≤ left)) ∧ Below w.heap.size w w' := by
  obtain ⟨ao, cap, rfl⟩ := readsR_shape hr.rows
  have hA : ∀ A, Below w.heap.size w (w.alloc A) := fun A => (Below.refl _ w).alloc (Nat.le_refl _) A
  go_enter Tryz.func4, Tryz.ntmps4
  go_wp2_with fail
  refine (szEntrySP_any _ l left _ (esReads_kept hr (hA _)) hf hlen hl hl2).mono ?_
  rintro x w1 ⟨⟨m, rfl, hm⟩, hb1⟩
  have hB1 := (hA _).trans (hb1.mono (by simp))
  clear hb1
  rcases hm with hm | ⟨hm0, hm1, hms⟩
  · go_wp2_with fail
    go_ret
    exact ⟨⟨_, rfl, .inl (by omega)⟩, hB1⟩
  · have HM : Hid _ := hms
    clear hms
    go_wp2_with fail
    go_ret
    exact ⟨⟨_, rfl, .inr ⟨hm0, hm1, HM.out⟩⟩, hB1⟩
end Go.Proofs.YtooomgffcamijaaGreat
/- Rows of entries marked whole, and asked for again: the marks that a law writes into an answer. -/
namespace Go.Proofs.YtooomgffcamijaaGreat
open Go.RowKit
set_option linter.unusedVariables false

def rowN (x : Row) : Nat := 4 + x.e.list.length + 2 * x.e.scores.length + 2 * x.e.fields.length
def mkEnt (k : Nat) (e : Ent) : Ent := ⟨mk (k : Int), (k : Int) + 1, (k : Int) + 1 + 1, mk ((k : Int) + 1 + 1 + 1), marks (k + 4) e.list.length, scMarks (k + 4 + e.list.length) e.scores.length, prMarks (k + 4 + e.list.length + 2 * e.scores.length) e.fields.length⟩
def mkRow (k : Nat) (x : Row) : Row := { x with e := mkEnt k x.e }
def mkRows : Nat → List Row → List Row
  | _, [] => []
  | k, x :: l => mkRow k x :: mkRows (k + rowN x) l
def rowsN : List Row → Nat
  | [] => 0
  | x :: l => rowN x + rowsN l
theorem rowsN_M : ∀ l : List Row, (rowsN l : Int) = rowsM l
  | [] => by unfold rowsN rowsM; rfl
  | x :: l => by have := rowsN_M l; unfold rowsN rowsM rowN rowM; omega
theorem mkRows_len : ∀ (l : List Row) (k : Nat), (mkRows k l).length = l.length
  | [], _ => rfl
  | x :: l, k => by unfold mkRows; rw [List.length_cons, List.length_cons, mkRows_len l]
theorem mkRows_snoc : ∀ (l : List Row) (k : Nat) (x : Row), mkRows k (l ++ [x]) = mkRows k l ++ [mkRow (k + rowsN l) x]
  | [], k, x => by show mkRow k x :: [] = [] ++ [mkRow (k + 0) x]; rfl
  | y :: l, k, x => by
    show mkRow k y :: mkRows (k + rowN y) (l ++ [x]) = (mkRow k y :: mkRows (k + rowN y) l) ++ [mkRow (k + (rowN y + rowsN l)) x]
    rw [mkRows_snoc l, Nat.add_assoc]; rfl
theorem mkRows_split : ∀ (l : List Row) (k j : Nat), mkRows k (l.take j) ++ mkRows (k + rowsN (l.take j)) (l.drop j) = mkRows k l
  | [], k, j => by simp [mkRows]
  | x :: l, k, 0 => by simp [mkRows, rowsN]
  | x :: l, k, j + 1 => by
    have := mkRows_split l (k + rowN x) j
    rw [List.take_succ_cons, List.drop_succ_cons]
    show mkRow k x :: (mkRows (k + rowN x) (l.take j) ++ mkRows (k + (rowN x + rowsN (l.take j))) (l.drop j)) = mkRow k x :: mkRows (k + rowN x) l
    rw [← Nat.add_assoc, this]
theorem rowsN_snoc : ∀ (l : List Row) (x : Row), rowsN (l ++ [x]) = rowsN l + rowN x
  | [], x => by show rowN x + 0 = 0 + rowN x; omega
  | y :: l, x => by show rowN y + rowsN (l ++ [x]) = rowN y + rowsN l + rowN x; rw [rowsN_snoc l]; omega
theorem rowsN_take : ∀ (l : List Row) (j : Nat), rowsN (l.take j) + rowsN (l.drop j) = rowsN l
  | [], j => by simp [rowsN]
  | x :: l, 0 => by simp [rowsN]
  | x :: l, j + 1 => by
    have := rowsN_take l j
    rw [List.take_succ_cons, List.drop_succ_cons]
    show rowN x + rowsN (l.take j) + rowsN (l.drop j) = rowN x + rowsN l
    omega
theorem take_es {l : List Row} {j : Nat} (h : j < l.length) : l.take (j + 1) = l.take j ++ [esAt l j] := by
  rw [List.take_succ_eq_append_getElem h, esAt_get h]
theorem flat_cong {M : List Row} {j : Nat} {a b : Row} (h : rowC a = rowC b) : (M.set j a).flatMap rowC = (M.set j b).flatMap rowC := by
  rw [List.flatMap_def, List.flatMap_def, List.map_set, List.map_set, h]
def rowK (x : Row) (a : ByteArray) (b c : Int) : Row := ⟨⟨a, b, c, x.e.text, x.e.list, x.e.scores, x.e.fields⟩, x.al, x.cl, x.as_, x.cs, x.af, x.cf⟩
def rowT (x : Row) (t : ByteArray) : Row := ⟨⟨x.e.key, x.e.til, x.e.kind, t, x.e.list, x.e.scores, x.e.fields⟩, x.al, x.cl, x.as_, x.cs, x.af, x.cf⟩
theorem store3 {w : World} {base g cap j : Nat} {M : List Row} {x : Row} (h : OwnsR rowC 7 53 w base (.slice (some ⟨g, 0, none⟩) M.length cap) M) (hj : M[j]? = some x) (a : ByteArray) (b c : Int) :
    OwnsR rowC 7 53 (((w.setCell ⟨g, j * 7, none⟩ (.string a)).setCell ⟨g, j * 7 + 1, none⟩ (.int .i64 b)).setCell ⟨g, j * 7 + 2, none⟩ (.int .i64 c)) base (.slice (some ⟨g, 0, none⟩) M.length cap) (M.set j (rowK x a b c)) := by
  have h1 := (ownsR_stored rowC_len h j 0 x (rowK x a x.e.til x.e.kind) (.string a) hj (by omega) rfl).1
  have e1 : (M.set j (rowK x a x.e.til x.e.kind)).length = M.length := List.length_set
  rw [Nat.add_zero, ← e1] at h1
  have h2 := (ownsR_stored rowC_len h1 j 1 _ (rowK x a b x.e.kind) (.int .i64 b) (set_at hj) (by omega) rfl).1
  have e2 : (M.set j (rowK x a b x.e.kind)).length = M.length := List.length_set
  rw [List.set_set, e1, ← e2] at h2
  have h3 := (ownsR_stored rowC_len h2 j 2 _ (rowK x a b c) (.int .i64 c) (set_at hj) (by omega) rfl).1
  rw [List.set_set, e2] at h3
  exact h3
theorem store1 {w : World} {base g cap j : Nat} {M : List Row} {x : Row} (h : OwnsR rowC 7 53 w base (.slice (some ⟨g, 0, none⟩) M.length cap) M) (hj : M[j]? = some x) (t : ByteArray) :
    OwnsR rowC 7 53 (w.setCell ⟨g, j * 7 + 3, none⟩ (.string t)) base (.slice (some ⟨g, 0, none⟩) M.length cap) (M.set j (rowT x t)) :=
  (ownsR_stored rowC_len h j 3 x (rowT x t) (.string t) hj (by omega) rfl).1
theorem row_mid {l : List Row} {j k : Nat} (h : j < l.length) : (mkRows k (l.take j) ++ l.drop j)[j]? = some (esAt l j) := by
  have hl : (mkRows k (l.take j)).length = j := by rw [mkRows_len, List.length_take]; omega
  rw [List.getElem?_append_right (by omega), hl, Nat.sub_self, drop_es h]; rfl
theorem row_put {l : List Row} {j k : Nat} {y : Row} (h : j < l.length) (hy : y = mkRow (k + rowsN (l.take j)) (esAt l j)) : (mkRows k (l.take j) ++ l.drop j).set j y = mkRows k (l.take (j + 1)) ++ l.drop (j + 1) := by
  have hl : (mkRows k (l.take j)).length = j := by rw [mkRows_len, List.length_take]; omega
  rw [List.set_append_right _ _ (by omega), hl, Nat.sub_self, drop_es h, List.set_cons_zero, take_es h, mkRows_snoc, hy, List.append_assoc]; rfl
theorem row_all {l : List Row} {k : Nat} : mkRows k (l.take l.length) ++ l.drop l.length = mkRows k l := by rw [List.take_length, List.drop_length, List.append_nil]
theorem row_len {l : List Row} {j k : Nat} (h : j ≤ l.length) : (mkRows k (l.take j) ++ l.drop j).length = l.length := by
  rw [List.length_append, mkRows_len, List.length_take, List.length_drop]; omega

theorem ownsR_off {w w' : World} {base g n cap p q : Nat} {M : List Row} (h : OwnsR rowC 7 53 w base (.slice (some ⟨g, 0, none⟩) n cap) M) (hw : Within w w' p q) (hg : g < p ∨ q ≤ g) : OwnsR rowC 7 53 w' base (.slice (some ⟨g, 0, none⟩) n cap) M :=
  ownsRow_block h fun g' hg' => hw.block g' (World.ownsRow.lt h g' hg').2 (by
    have e : g = g' := by simpa [Value.ownBlock] using hg'
    subst e; exact hg)
theorem ensOwn_before {w w' : World} {p q : Nat} (hw : Within w w' p q) : ∀ {l : List Row} {lo hi : Nat}, hi ≤ p → EnsOwn w lo hi l → EnsOwn w' lo hi l
  | [], _, _, _, h => h
  | x :: l, lo, hi, hp, ⟨m, h1, h2, h3⟩ => ⟨m, h1, enOwn_within h2 hw (.inl (Nat.le_trans (ensOwn_le h3) hp)), ensOwn_before hw hp h3⟩
theorem ensOwn_up {w : World} : ∀ {l : List Row} {lo hi hi' : Nat}, EnsOwn w lo hi l → hi ≤ hi' → EnsOwn w lo hi' l
  | [], _, _, _, h, h2 => Nat.le_trans h h2
  | x :: l, _, _, _, ⟨m, h1, h2, h3⟩, h4 => ⟨m, h1, h2, ensOwn_up h3 h4⟩
theorem mkRow_cells {w : World} {base g cap j k : Nat} {D : List Row} {x : Row} {n : Nat} (h : OwnsR rowC 7 53 w base (.slice (some ⟨g, 0, none⟩) n cap) D) (hn : D.length = n) (hj : D[j]? = some (mkRow k x)) :
    w.cell? ⟨g, j * 7 + 5, none⟩ = some (.slice x.as_ x.e.scores.length x.cs) ∧ w.cell? ⟨g, j * 7 + 6, none⟩ = some (.slice x.af x.e.fields.length x.cf) := by
  subst hn
  have h5 := cellR rowC_len h hj 5 _ rfl
  have h6 := cellR rowC_len h hj 6 _ rfl
  rw [show (mkRow k x).e.scores.length = x.e.scores.length from scMarks_len _ _] at h5
  rw [show (mkRow k x).e.fields.length = x.e.fields.length from prMarks_len _ _] at h6
  exact ⟨h5, h6⟩
theorem row_put_at {l : List Row} {j k : Nat} (h : j < l.length) : (mkRows k (l.take (j + 1)) ++ l.drop (j + 1))[j]? = some (mkRow (k + rowsN (l.take j)) (esAt l j)) := by
  rw [← row_put h rfl]; exact set_at (row_mid h)

set_option maxRecDepth 100000 in
set_option maxHeartbeats 8000000 in
theorem markAll_any (v : Value) (l : List Row) (lo m hi : Nat) (w : World) (ho : OwnR rowC 7 53 w lo m v l) (hin : EnsOwn w m hi l) (hhi : hi ≤ w.heap.size) (hm : rowsM l ≤ 4194304) (hs : ∀ x ∈ l, EnSmall x.e) :
    Calls Tryz.prog 20 #[v, .int .i64 1] w fun x w' => x = .returned (.int .i64 (1 + rowsM l)) ∧ OwnR rowC 7 53 w' lo m v (mkRows 1 l) ∧ EnsOwn w' m hi (mkRows 1 l) ∧ Within w w' lo hi := by
  have hmhi := ensOwn_le hin
  have hN := rowsN_M l
  obtain ⟨ao, cap, rfl⟩ := readsR_shape (ownR_reads rowC_len ho)
  by_cases h0 : 0 < l.length
  · obtain ⟨g, cs, rfl, hg1, hg2, hrow, hnc, hcm, hcs⟩ := rows_block ho h0
    have hmlen : (l.length : Int) ≤ 4194304 := by have := rowsM_len l; omega
    have HO0 : OwnsR rowC 7 53 w lo (.slice (some ⟨g, 0, none⟩) l.length cap) (mkRows 1 (l.take 0) ++ l.drop 0) := ho.1
    have HI0 : EnsOwn w m hi (l.drop 0) := hin
    clear ho hin hrow hcs
    go_enter Tryz.func20, Tryz.ntmps20
    go_wp2_with fail
    go_loopw [1, 5] (fun c i wr => ∃ (j a : Nat), j ≤ l.length ∧ i = .int .i64 j ∧ c = .int .i64 ((1 + rowsN (l.take j) : Nat) : Int) ∧ m ≤ a ∧ Hid (OwnsR rowC 7 53 wr lo (.slice (some ⟨g, 0, none⟩) l.length cap) (mkRows 1 (l.take j) ++ l.drop j)) ∧ Hid (EnsOwn wr m a (mkRows 1 (l.take j))) ∧ EnsOwn wr a hi (l.drop j) ∧ Within w wr lo hi) (fun _ i _ => l.length - (intOf i).toNat)
    case atStart => exact ⟨0, m, Nat.zero_le _, rfl, rfl, Nat.le_refl _, HO0, Nat.le_refl m, HI0, within_refl _ _ _⟩
    case round =>
      obtain ⟨j, a, hj, rfl, rfl, ham, HO, HD, hE, hW⟩ := hrel
      by_cases hlt : j < l.length
      · have hjl : (j : Int) < (l.length : Int) := by omega
        have hsm := hs _ (esAt_mem hlt)
        have hrt := rowsN_take l j
        rw [drop_es hlt] at hE hrt
        obtain ⟨b, hab, hX, hE⟩ := hE
        have hbi := ensOwn_le hE
        have hstep : rowsN (l.take (j + 1)) = rowsN (l.take j) + rowN (esAt l j) := by rw [take_es hlt, rowsN_snoc]
        have HST : Hid _ := hstep
        obtain ⟨k, hk⟩ : ∃ k, 1 + rowsN (l.take j) = k := ⟨_, rfl⟩
        have HKK : Hid (1 + rowsN (l.take j) = k) := hk
        have hkb : (k : Int) + (4 + ((esAt l j).e.list.length : Int) + 2 * ((esAt l j).e.scores.length : Int) + 2 * ((esAt l j).e.fields.length : Int)) ≤ 4194305 := by
          have hrt2 : rowsN (l.take j) + (rowN (esAt l j) + rowsN (l.drop (j + 1))) = rowsN l := hrt
          unfold rowN at hrt2
          omega
        have hk0 : (0 : Int) < (k : Int) := by omega
        rw [hk]
        have hMl : (mkRows 1 (l.take j) ++ l.drop j).length = l.length := row_len hj
        have HM : Hid ((mkRows 1 (l.take j) ++ l.drop j)[j]? = some (esAt l j)) := row_mid hlt
        obtain ⟨M, hMM⟩ : ∃ M, mkRows 1 (l.take j) ++ l.drop j = M := ⟨_, rfl⟩
        have HMM : Hid (mkRows 1 (l.take j) ++ l.drop j = M) := hMM
        rw [hMM] at HO HM hMl
        rw [← hMl] at HO
        clear hrt hstep hk hMM
        go_wp2_with fail
        refine (mark_any k _ hk0 (by omega)).mono ?_
        rintro e w1 ⟨rfl, hb1⟩
        have HO1 : Hid _ := ownsR_kept HO.out hb1
        have HD1 : Hid _ := ensOwn_kept HD.out hb1
        have hX1 := enOwn_kept hX hb1
        have hE1 := ensOwn_kept hE hb1
        have hW1 := within_trans hW (within_below hb1 lo hi)
        clear hb1 HO HD hX hE hW
        have c0 : w1.cell? ⟨g, j * 7, none⟩ = _ := cellR rowC_len HO1.out HM.out 0 _ rfl
        have c1 : w1.cell? ⟨g, j * 7 + 1, none⟩ = _ := cellR rowC_len HO1.out HM.out 1 _ rfl
        have c2 : w1.cell? ⟨g, j * 7 + 2, none⟩ = _ := cellR rowC_len HO1.out HM.out 2 _ rfl
        have fz := fun o => World.ownsRow.frozenAt HO1.out o
        go_wp2_with fail
        have HO2 : Hid _ := store3 HO1.out HM.out (mk k) ((k : Int) + 1) ((k : Int) + 1 + 1)
        have S2 : Within w1 (((w1.setCell ⟨g, j * 7, none⟩ (.string (mk k))).setCell ⟨g, j * 7 + 1, none⟩ (.int .i64 ((k : Int) + 1))).setCell ⟨g, j * 7 + 2, none⟩ (.int .i64 ((k : Int) + 1 + 1))) lo m := within_set (within_set (within_set (within_refl w1 lo m) g (j * 7) _ hg1 hg2) g (j * 7 + 1) _ hg1 hg2) g (j * 7 + 2) _ hg1 hg2
        have hX2 := enOwn_within hX1 S2 (.inr ham)
        have hE2 := ensOwn_within hE1 S2 (by omega)
        have HD2 : Hid _ := ensOwn_within HD1.out S2 (Nat.le_refl _)
        have hW2 := within_trans hW1 (within_mono S2 (Nat.le_refl _) hmhi)
        clear c0 c1 c2 fz HO1 HD1 hX1 hE1 hW1 S2
        obtain ⟨w2, hWW⟩ : ∃ W, ((w1.setCell ⟨g, j * 7, none⟩ (.string (mk k))).setCell ⟨g, j * 7 + 1, none⟩ (.int .i64 ((k : Int) + 1))).setCell ⟨g, j * 7 + 2, none⟩ (.int .i64 ((k : Int) + 1 + 1)) = W := ⟨_, rfl⟩
        rw [hWW] at HO2 hX2 hE2 HD2 hW2 ⊢
        clear hWW
        refine (mark_any _ _ (by omega) (by omega)).mono ?_
        rintro e w3 ⟨rfl, hb3⟩
        have HO3 : Hid _ := ownsR_kept HO2.out hb3
        have HD3 : Hid _ := ensOwn_kept HD2.out hb3
        have hX3 := enOwn_kept hX2 hb3
        have hE3 := ensOwn_kept hE2 hb3
        have hW3 := within_trans hW2 (within_below hb3 lo hi)
        clear hb3 HO2 HD2 hX2 hE2 hW2
        have HM3 : Hid _ := set_at (y := rowK (esAt l j) (mk k) ((k : Int) + 1) ((k : Int) + 1 + 1)) HM.out
        have hl3 : (M.set j (rowK (esAt l j) (mk k) ((k : Int) + 1) ((k : Int) + 1 + 1))).length = M.length := List.length_set
        rw [← hl3] at HO3
        have c3 : w3.cell? ⟨g, j * 7 + 3, none⟩ = _ := cellR rowC_len HO3.out HM3.out 3 _ rfl
        have c4 : w3.cell? ⟨g, j * 7 + 4, none⟩ = some (.slice (esAt l j).al (esAt l j).e.list.length (esAt l j).cl) := cellR rowC_len HO3.out HM3.out 4 _ rfl
        have fz := fun o => World.ownsRow.frozenAt HO3.out o
        go_wp2_with fail
        have hst := store1 HO3.out HM3.out (mk ((k : Int) + 1 + 1 + 1))
        rw [List.set_set, hl3] at hst
        have HO4 : Hid _ := hst
        have S4 : Within w3 (w3.setCell ⟨g, j * 7 + 3, none⟩ (.string (mk ((k : Int) + 1 + 1 + 1)))) lo m := within_set (within_refl w3 lo m) g (j * 7 + 3) _ hg1 hg2
        have hX4 := enOwn_within hX3 S4 (.inr ham)
        have hE4 := ensOwn_within hE3 S4 (by omega)
        have HD4 : Hid _ := ensOwn_within HD3.out S4 (Nat.le_refl _)
        have hW4 := within_trans hW3 (within_mono S4 (Nat.le_refl _) hmhi)
        clear c3 c4 fz hst HO3 HD3 hX3 hE3 hW3 S4 HM3 hl3
        obtain ⟨w4, hWW⟩ : ∃ W, w3.setCell ⟨g, j * 7 + 3, none⟩ (.string (mk ((k : Int) + 1 + 1 + 1))) = W := ⟨_, rfl⟩
        rw [hWW] at HO4 hX4 hE4 HD4 hW4 ⊢
        clear hWW
        have hcg : rowC (rowT (rowK (esAt l j) (mk k) ((k : Int) + 1) ((k : Int) + 1 + 1)) (mk ((k : Int) + 1 + 1 + 1))) = rowC (mkRow k (esAt l j)) := by
          unfold rowC rowT rowK mkRow mkEnt
          rw [marks_len, scMarks_len, prMarks_len]
        have HO5 : Hid (OwnsR rowC 7 53 w4 lo (.slice (some ⟨g, 0, none⟩) l.length cap) (mkRows 1 (l.take (j + 1)) ++ l.drop (j + 1))) := by
          have := HO4.out
          unfold OwnsR at this ⊢
          rw [List.length_set, flat_cong hcg, hMl] at this
          rw [← HMM.out, row_put hlt (by rw [HKK.out])] at this
          rw [row_len hlt]
          exact this
        clear HO4 hcg HM HMM hMl
        obtain ⟨A, B, hA1, hA2, hA3, hl4, hc4, hf4⟩ := hX4
        have hn1 := hsm.list
        have hn2 := hsm.scores
        have hn3 := hsm.fields
        have HJ : Hid ((mkRows 1 (l.take (j + 1)) ++ l.drop (j + 1))[j]? = some (mkRow k (esAt l j))) := by
          have := row_put_at (k := 1) hlt
          rw [HKK.out] at this; exact this
        have HL : Hid ((mkRows 1 (l.take (j + 1)) ++ l.drop (j + 1)).length = l.length) := row_len hlt
        refine (mark_own_from _ (esAt l j).e.list a A _ _ hl4 (by omega) (by omega) hsm.list).mono ?_
        rintro e w5 ⟨rfl, hl5, hg5⟩
        have V5 := within_grown hg5 (own_in hl4)
        have HO6 : Hid _ := ownsR_off HO5.out V5 (.inl (by omega))
        have HD5 : Hid _ := ensOwn_before V5 (Nat.le_refl _) HD4.out
        have hE5 := ensOwn_within hE4 V5 (by omega)
        have hc5 := ownR_within hc4 V5 (.inr (Nat.le_refl _))
        have hf5 := ownR_within hf4 V5 (.inr hA2)
        have hW5 := within_trans hW4 (within_mono V5 (by omega) (by omega))
        clear hg5 V5 HO5 HD4 hE4 hl4 hc4 hf4 hW4
        have c5 := (mkRow_cells HO6.out HL.out HJ.out).1
        go_wp2_with fail
        refine (markScore_own _ (esAt l j).e.scores A B _ _ hc5 (by omega) (by omega) hsm.scores).mono ?_
        rintro e w6 ⟨rfl, hc6, hg6⟩
        have V6 := within_grown hg6 (ownR_in hc5)
        have HO7 : Hid _ := ownsR_off HO6.out V6 (.inl (by omega))
        have HD6 : Hid _ := ensOwn_before V6 hA1 HD5.out
        have hE6 := ensOwn_within hE5 V6 (by omega)
        have hl6 := own_within hl5 V6 (.inl (Nat.le_refl _))
        have hf6 := ownR_within hf5 V6 (.inr (Nat.le_refl _))
        have hW6 := within_trans hW5 (within_mono V6 (by omega) (by omega))
        clear hg6 V6 HO6 HD5 hE5 hl5 hc5 hf5 hW5 c5
        have c6 := (mkRow_cells HO7.out HL.out HJ.out).2
        go_wp2_with fail
        refine (markPair_own _ (esAt l j).e.fields B b _ _ hf6 (by omega) (by omega) hsm.fields).mono ?_
        rintro e w7 ⟨rfl, hf7, hg7⟩
        have V7 := within_grown hg7 (ownR_in hf6)
        have HO8 : Hid _ := ownsR_off HO7.out V7 (.inl (by omega))
        have HD7 : Hid _ := ensOwn_before V7 (Nat.le_trans hA1 hA2) HD6.out
        have hE7 := ensOwn_within hE6 V7 (Nat.le_refl _)
        have hl7 := own_within hl6 V7 (.inl hA2)
        have hc7 := ownR_within hc6 V7 (.inl (Nat.le_refl _))
        have hW7 := within_trans hW6 (within_mono V7 (by omega) (by omega))
        clear hg7 V7 HO7 HD6 hE6 hl6 hc6 hf6 hW6 c6
        have t1 : ((k : Int) + 1 + 1 + 1 + 1).toNat = k + 4 := by omega
        have t2 : ((k : Int) + 1 + 1 + 1 + 1 + ((esAt l j).e.list.length : Int)).toNat = k + 4 + (esAt l j).e.list.length := by omega
        have t3 : ((k : Int) + 1 + 1 + 1 + 1 + ((esAt l j).e.list.length : Int) + 2 * ((esAt l j).e.scores.length : Int)).toNat = k + 4 + (esAt l j).e.list.length + 2 * (esAt l j).e.scores.length := by omega
        rw [t1] at hl7
        rw [t2] at hc7
        rw [t3] at hf7
        have hxx : EnOwn w7 a b (mkRow k (esAt l j)).vl (mkRow k (esAt l j)).vs (mkRow k (esAt l j)).vf (mkRow k (esAt l j)).e := by
          have e1 : (mkRow k (esAt l j)).vl = .slice (esAt l j).al (esAt l j).e.list.length (esAt l j).cl := by
            show Value.slice (esAt l j).al (marks (k + 4) (esAt l j).e.list.length).length (esAt l j).cl = _
            rw [marks_len]
          have e2 : (mkRow k (esAt l j)).vs = .slice (esAt l j).as_ (esAt l j).e.scores.length (esAt l j).cs := by
            show Value.slice (esAt l j).as_ (scMarks _ (esAt l j).e.scores.length).length (esAt l j).cs = _
            rw [scMarks_len]
          have e3 : (mkRow k (esAt l j)).vf = .slice (esAt l j).af (esAt l j).e.fields.length (esAt l j).cf := by
            show Value.slice (esAt l j).af (prMarks _ (esAt l j).e.fields.length).length (esAt l j).cf = _
            rw [prMarks_len]
          rw [e1, e2, e3]
          exact ⟨A, B, hA1, hA2, hA3, hl7, hc7, hf7⟩
        have HD8 : Hid (EnsOwn w7 m b (mkRows 1 (l.take (j + 1)))) := by
          show EnsOwn w7 m b (mkRows 1 (l.take (j + 1)))
          rw [take_es hlt, mkRows_snoc, HKK.out]
          exact ensOwn_snoc HD7.out hxx
        have hkk : ((1 + rowsN (l.take (j + 1)) : Nat) : Int) = (k : Int) + 1 + 1 + 1 + 1 + ((esAt l j).e.list.length : Int) + 2 * ((esAt l j).e.scores.length : Int) + 2 * ((esAt l j).e.fields.length : Int) := by
          have h1 := HST.out
          have h2 := HKK.out
          rw [h1]
          unfold rowN
          omega
        have HKN : Hid _ := hkk
        clear hl7 hc7 hf7 hxx HD7 hkk
        have hlt' := hlt
        go_wp2_with fail
        go_roundw
        case rel => exact ⟨j + 1, b, hlt', by go_num, by rw [HKN.out], by omega, HO8, HD8, hE7, hW7⟩
        case measure => simp [intOf]; omega
      · obtain rfl : j = l.length := by omega
        go_wp2_with fail
        go_ret
        have h1 := HO.out
        have h2 := HD.out
        rw [row_all] at h1
        rw [List.take_length] at h2
        have hah : a ≤ hi := by rw [List.drop_length] at hE; exact hE
        refine ⟨by rw [List.take_length, ← hN]; push_cast; rfl, ⟨by unfold OwnsR at h1 ⊢; rw [mkRows_len] at h1 ⊢; exact h1, fun k hk => ?_⟩, ensOwn_up h2 hah, hW⟩
        have : g = k := by simpa [Value.ownBlock] using hk
        omega
  · obtain rfl : l = [] := List.length_eq_zero_iff.1 (by omega)
    go_enter Tryz.func20, Tryz.ntmps20
    go_wp2_with fail
    refine wp_loop_rounds 1 ?_
    rw [rounds_succ]
    go_wp2_with fail
    go_ret
    exact ⟨by unfold rowsM; rfl, ho, hin, within_refl _ _ _⟩

set_option maxRecDepth 100000 in
set_option maxHeartbeats 8000000 in
theorem heldAll_any (v : Value) (l : List Row) (w : World) (hr : EsReads w v (mkRows 1 l)) (hm : rowsM l ≤ 4194304) (hs : ∀ x ∈ l, EnSmall x.e) :
    Calls Tryz.prog 21 #[v, .int .i64 1] w fun x w' => x = .returned (.int .i64 (1 + rowsM l)) ∧ Below w.heap.size w w' := by
  have hN := rowsN_M l
  obtain ⟨ao, cap, rfl⟩ := readsR_shape hr.rows
  have hL := mkRows_len l 1
  rw [hL] at hr ⊢
  have hmlen : (l.length : Int) ≤ 4194304 := by have := rowsM_len l; omega
  go_enter Tryz.func21, Tryz.ntmps21
  go_wp2_with fail
  go_loopw [1, 5] (fun c i wr => ∃ j : Nat, j ≤ l.length ∧ i = .int .i64 j ∧ c = .int .i64 ((1 + rowsN (l.take j) : Nat) : Int) ∧ Below w.heap.size w wr) (fun _ i _ => l.length - (intOf i).toNat)
  case atStart => exact ⟨0, Nat.zero_le _, rfl, rfl, Below.refl _ _⟩
  case round =>
    obtain ⟨j, hj, rfl, rfl, hB⟩ := hrel
    by_cases hlt : j < l.length
    · have hjl : (j : Int) < (l.length : Int) := by omega
      have hsm := hs _ (esAt_mem hlt)
      have hrt := rowsN_take l j
      rw [drop_es hlt] at hrt
      have hstep : rowsN (l.take (j + 1)) = rowsN (l.take j) + rowN (esAt l j) := by rw [take_es hlt, rowsN_snoc]
      have HST : Hid _ := hstep
      obtain ⟨k, hk⟩ : ∃ k, 1 + rowsN (l.take j) = k := ⟨_, rfl⟩
      have HKK : Hid (1 + rowsN (l.take j) = k) := hk
      have hkb : (k : Int) + (4 + ((esAt l j).e.list.length : Int) + 2 * ((esAt l j).e.scores.length : Int) + 2 * ((esAt l j).e.fields.length : Int)) ≤ 4194305 := by
        have hrt2 : rowsN (l.take j) + (rowN (esAt l j) + rowsN (l.drop (j + 1))) = rowsN l := hrt
        unfold rowN at hrt2
        omega
      have hk0 : (0 : Int) < (k : Int) := by omega
      rw [hk]
      have HJ : Hid ((mkRows 1 l)[j]? = some (mkRow k (esAt l j))) := by
        have h1 := row_put_at (k := 1) hlt
        rw [HKK.out] at h1
        show (mkRows 1 l)[j]? = _
        rw [← mkRows_split l 1 (j + 1)] 
        rw [List.getElem?_append_left (by rw [mkRows_len, List.length_take]; omega)]
        rwa [List.getElem?_append_left (by rw [mkRows_len, List.length_take]; omega)] at h1
      clear hrt hstep hk
      have hjm : j < (mkRows 1 l).length := by rw [hL]; exact hlt
      have hrr : ReadsR rowC 7 w (.slice ao (mkRows 1 l).length cap) (mkRows 1 l) := by rw [hL]; exact hr.rows
      obtain ⟨b, off, rfl, hb, hnc, hcm, hc⟩ := es_some hrr (by omega)
      have hE : esAt (mkRows 1 l) j = mkRow k (esAt l j) := Option.some.inj ((esAt_some hjm).symm.trans HJ.out)
      have hcl := es_cells hc hB hb hjm
      have hin := rowIn_kept (hr.ins _ (esAt_mem hjm)) hB
      rw [hE] at hcl hin
      have hbr : b < wr.heap.size := Nat.lt_of_lt_of_le hb hB.size
      clear hc hnc hcm hrr hE HJ hjm
      have n1 := hsm.list
      have n2 := hsm.scores
      have n3 := hsm.fields
      have e1 : (marks (k + 4) (esAt l j).e.list.length).length = (esAt l j).e.list.length := marks_len _ _
      have e2 : (scMarks (k + 4 + (esAt l j).e.list.length) (esAt l j).e.scores.length).length = (esAt l j).e.scores.length := scMarks_len _ _
      have e3 : (prMarks (k + 4 + (esAt l j).e.list.length + 2 * (esAt l j).e.scores.length) (esAt l j).e.fields.length).length = (esAt l j).e.fields.length := prMarks_len _ _
      have c0 : wr.cell? ⟨b, off + j * 7, none⟩ = some (.string (mk (k : Int))) := hcl.1
      have c1 : wr.cell? ⟨b, off + j * 7 + 1, none⟩ = some (.int .i64 ((k : Int) + 1)) := hcl.2.1
      have c2 : wr.cell? ⟨b, off + j * 7 + 2, none⟩ = some (.int .i64 ((k : Int) + 1 + 1)) := hcl.2.2.1
      have c3 : wr.cell? ⟨b, off + j * 7 + 3, none⟩ = some (.string (mk ((k : Int) + 1 + 1 + 1))) := hcl.2.2.2.1
      have c4 : wr.cell? ⟨b, off + j * 7 + 4, none⟩ = some (.slice (esAt l j).al (esAt l j).e.list.length (esAt l j).cl) := by
        have : wr.cell? ⟨b, off + j * 7 + 4, none⟩ = some (.slice (esAt l j).al (marks (k + 4) (esAt l j).e.list.length).length (esAt l j).cl) := hcl.2.2.2.2.1
        rwa [e1] at this
      have c5 : wr.cell? ⟨b, off + j * 7 + 5, none⟩ = some (.slice (esAt l j).as_ (esAt l j).e.scores.length (esAt l j).cs) := by
        have : wr.cell? ⟨b, off + j * 7 + 5, none⟩ = some (.slice (esAt l j).as_ (scMarks (k + 4 + (esAt l j).e.list.length) (esAt l j).e.scores.length).length (esAt l j).cs) := hcl.2.2.2.2.2.1
        rwa [e2] at this
      have c6 : wr.cell? ⟨b, off + j * 7 + 6, none⟩ = some (.slice (esAt l j).af (esAt l j).e.fields.length (esAt l j).cf) := by
        have : wr.cell? ⟨b, off + j * 7 + 6, none⟩ = some (.slice (esAt l j).af (prMarks (k + 4 + (esAt l j).e.list.length + 2 * (esAt l j).e.scores.length) (esAt l j).e.fields.length).length (esAt l j).cf) := hcl.2.2.2.2.2.2
        rwa [e3] at this
      have RL : Hid (Reads wr (.slice (esAt l j).al (esAt l j).e.list.length (esAt l j).cl) (marks (k + 4) (esAt l j).e.list.length)) := by
        have : Reads wr (.slice (esAt l j).al (marks (k + 4) (esAt l j).e.list.length).length (esAt l j).cl) (marks (k + 4) (esAt l j).e.list.length) := hin.l
        rwa [e1] at this
      have RS : Hid (ScReads wr (.slice (esAt l j).as_ (esAt l j).e.scores.length (esAt l j).cs) (scMarks (k + 4 + (esAt l j).e.list.length) (esAt l j).e.scores.length)) := by
        have : ScReads wr (.slice (esAt l j).as_ (scMarks (k + 4 + (esAt l j).e.list.length) (esAt l j).e.scores.length).length (esAt l j).cs) (scMarks (k + 4 + (esAt l j).e.list.length) (esAt l j).e.scores.length) := hin.s
        rwa [e2] at this
      have RF : Hid (PrReads wr (.slice (esAt l j).af (esAt l j).e.fields.length (esAt l j).cf) (prMarks (k + 4 + (esAt l j).e.list.length + 2 * (esAt l j).e.scores.length) (esAt l j).e.fields.length)) := by
        have : PrReads wr (.slice (esAt l j).af (prMarks (k + 4 + (esAt l j).e.list.length + 2 * (esAt l j).e.scores.length) (esAt l j).e.fields.length).length (esAt l j).cf) (prMarks (k + 4 + (esAt l j).e.list.length + 2 * (esAt l j).e.scores.length) (esAt l j).e.fields.length) := hin.f
        rwa [e3] at this
      have hne0 := ne_self (mk (k : Int))
      have hne3 := ne_self (mk ((k : Int) + 1 + 1 + 1))
      have hn1 : ((k : Int) + 1 != (k : Int) + 1) = false := by simp
      have hn2 : ((k : Int) + 1 + 1 != (k : Int) + 1 + 1) = false := by simp
      clear hcl hin e1 e2 e3
      go_wp2_with fail
      go_region_held3 (fun w' => w'.cell? ⟨b, off + j * 7, none⟩ = some (.string (mk (k : Int))) ∧ Below wr.heap.size wr w') (first | exact ⟨c0, (Below.refl _ _).drew⟩ | assumption | go_keep) (first
        | (go_at_call 33; refine (mark_any _ _ (by omega) (by omega)).mono ?_; rintro e w3 ⟨rfl, hb3⟩; have hk3 := held_on hbr hb3 ‹_›))
      have hS3 : Below wr.heap.size wr w3 := hk3.2
      have HS3 : Hid _ := hS3
      have hbr3 : b < w3.heap.size := Nat.lt_of_lt_of_le hbr hS3.size
      have d1 := (hS3.cell (p := ⟨b, off + j * 7 + 1, none⟩) hbr).trans c1
      have d2 := (hS3.cell (p := ⟨b, off + j * 7 + 2, none⟩) hbr).trans c2
      have d3 := (hS3.cell (p := ⟨b, off + j * 7 + 3, none⟩) hbr).trans c3
      clear hk3 hb3 c0 c1 c2 c3 hS3
      go_wp2_with fail
      go_region_held3 (fun w' => w'.cell? ⟨b, off + j * 7 + 3, none⟩ = some (.string (mk ((k : Int) + 1 + 1 + 1))) ∧ Below w3.heap.size w3 w') (first | exact ⟨d3, (Below.refl _ _).drew⟩ | assumption | go_keep) (first
        | (go_at_call 33; refine (mark_any _ _ (by omega) (by omega)).mono ?_; rintro e w5 ⟨rfl, hb5⟩; have hk5 := held_on hbr3 hb5 ‹_›))
      have hS5 : Below wr.heap.size wr w5 := HS3.out.trans (hk5.2.mono HS3.out.size)
      have HS5 : Hid _ := hS5
      have d4 := (hS5.cell (p := ⟨b, off + j * 7 + 4, none⟩) hbr).trans c4
      have hc := heldS_any _ (esAt l j).e.list.length (k + 4) _ (reads_kept RL.out hS5) (by omega) (by omega) n1
      rw [show ((k + 4 : Nat) : Int) = (k : Int) + 1 + 1 + 1 + 1 by omega] at hc
      clear hk5 hb5 d1 d2 d3 hS5 HS3 c4
      go_wp2_with fail
      refine hc.mono ?_
      rintro x w6 ⟨rfl, hb6⟩
      have hS6 : Below wr.heap.size wr w6 := HS5.out.trans (hb6.mono HS5.out.size)
      have HS6 : Hid _ := hS6
      have d5 := (hS6.cell (p := ⟨b, off + j * 7 + 5, none⟩) hbr).trans c5
      have hc := heldScoreS_any _ (esAt l j).e.scores.length (k + 4 + (esAt l j).e.list.length) _ (readsR_kept RS.out hS6) (by omega) (by omega) n2
      rw [show ((k + 4 + (esAt l j).e.list.length : Nat) : Int) = (k : Int) + 1 + 1 + 1 + 1 + ((esAt l j).e.list.length : Int) by omega] at hc
      clear hb6 d4 hS6 HS5 c5
      go_wp2_with fail
      refine hc.mono ?_
      rintro x w7 ⟨rfl, hb7⟩
      have hS7 : Below wr.heap.size wr w7 := HS6.out.trans (hb7.mono HS6.out.size)
      have HS7 : Hid _ := hS7
      have d6 := (hS7.cell (p := ⟨b, off + j * 7 + 6, none⟩) hbr).trans c6
      have hc := heldPairS_any _ (esAt l j).e.fields.length (k + 4 + (esAt l j).e.list.length + 2 * (esAt l j).e.scores.length) _ (readsR_kept RF.out hS7) (by omega) (by omega) n3
      rw [show ((k + 4 + (esAt l j).e.list.length + 2 * (esAt l j).e.scores.length : Nat) : Int) = (k : Int) + 1 + 1 + 1 + 1 + ((esAt l j).e.list.length : Int) + 2 * ((esAt l j).e.scores.length : Int) by omega] at hc
      clear hb7 d5 hS7 HS6 c6
      go_wp2_with fail
      refine hc.mono ?_
      rintro x w8 ⟨rfl, hb8⟩
      have hB8 : Below w.heap.size w w8 := hB.trans ((HS7.out.trans (hb8.mono HS7.out.size)).mono hB.size)
      have hkk : ((1 + rowsN (l.take (j + 1)) : Nat) : Int) = (k : Int) + 1 + 1 + 1 + 1 + ((esAt l j).e.list.length : Int) + 2 * ((esAt l j).e.scores.length : Int) + 2 * ((esAt l j).e.fields.length : Int) := by
        have h1 := HST.out
        have h2 := HKK.out
        rw [h1]
        unfold rowN
        omega
      have HKN : Hid _ := hkk
      clear hb8 d6 HS7 hkk hc hB
      go_wp2_with fail
      go_roundw
      case rel => exact ⟨j + 1, hlt, by go_num, by rw [HKN.out], hB8⟩
      case measure => simp [intOf]; omega
    · obtain rfl : j = l.length := by omega
      go_wp2_with fail
      go_ret
      exact ⟨by rw [List.take_length, ← hN]; push_cast; rfl, hB⟩
end Go.Proofs.YtooomgffcamijaaGreat
/- Rows of entries whose outer block may lie anywhere: marked whole. That it is none of its entries' lists its type tells. -/
namespace Go.Proofs.YtooomgffcamijaaGreat
open Go.RowKit
set_option linter.unusedVariables false

theorem ownsR_row {w : World} {base g n cap : Nat} {M : List Row} (h : OwnsR rowC 7 53 w base (.slice (some ⟨g, 0, none⟩) n cap) M) : ∃ cs, w.heap[g]? = some (.cells cs 53 (0, 0)) := by
  rcases h.2 with ⟨hv, _⟩ | ⟨g', cap', cur, hv, _, hrow, _⟩
  · simp at hv
  · simp only [Value.slice.injEq, Option.some.injEq, Addr.mk.injEq, and_true] at hv
    obtain ⟨rfl, _⟩ := hv
    exact ⟨cur, hrow⟩
theorem ownR_ne {α : Type} {c : α → List Value} {sz : Nat} {t : TypeId} (ht : t ≠ 53) {w : World} {lo hi g : Nat} {v : Value} {l : List α} (hg : ∃ cs, w.heap[g]? = some (.cells cs 53 (0, 0))) (h : OwnR c sz t w lo hi v l) : v.ownBlock ≠ some g := by
  intro e
  obtain ⟨cs, hg⟩ := hg
  rcases h.1.2 with ⟨hv, _⟩ | ⟨g', cap', cur, hv, _, hrow, _⟩
  · rw [hv] at e; cases e
  · rw [hv] at e
    have e2 : g' = g := by simpa [Value.ownBlock] using e
    rw [e2, hg] at hrow
    simp only [Option.some.injEq, Obj.cells.injEq] at hrow
    exact ht hrow.2.1.symm
theorem own_ne {w : World} {lo hi g : Nat} {v : Value} {l : List ByteArray} (hg : ∃ cs, w.heap[g]? = some (.cells cs 53 (0, 0))) (h : Own w lo hi v l) : v.ownBlock ≠ some g := by
  intro e
  obtain ⟨cs, hg⟩ := hg
  rcases h.1.2 with ⟨hv, _⟩ | ⟨g', cap', cur, hv, _, hrow, _⟩
  · rw [hv] at e; cases e
  · rw [hv] at e
    have e2 : g' = g := by simpa [Value.ownBlock] using e
    rw [e2, hg] at hrow
    simp only [Option.some.injEq, Obj.cells.injEq] at hrow
    have : (53 : Nat) = 9 := hrow.2.1
    omega
theorem ownsR_ne {w w' : World} {base g n cap : Nat} {M : List Row} {r : Option Nat} (h : OwnsR rowC 7 53 w base (.slice (some ⟨g, 0, none⟩) n cap) M) (hg : w.grownBy w' r) (hr : r ≠ some g) : OwnsR rowC 7 53 w' base (.slice (some ⟨g, 0, none⟩) n cap) M :=
  World.ownsRow.kept h hg (.inr (fun e => hr e.symm))
theorem enOwn_at {w w' : World} {g a m : Nat} {vl vs vf : Value} {e : Ent} (h : EnOwn w a m vl vs vf e) (hw : Within w w' g (g + 1)) (hg : ∃ cs, w.heap[g]? = some (.cells cs 53 (0, 0))) : EnOwn w' a m vl vs vf e := by
  obtain ⟨x, y, h1, h2, h3, h4, h5, h6⟩ := h
  have f : ∀ b, b < w.heap.size → b ≠ g → w'.heap[b]? = w.heap[b]? := fun b hb hne => hw.block b hb (by omega)
  refine ⟨x, y, h1, h2, h3, ⟨ownsRow_block h4.1 fun b hb => f b (h4.1.lt b hb).2 ?_, h4.2⟩, ⟨ownsRow_block h5.1 fun b hb => f b (World.ownsRow.lt h5.1 b hb).2 ?_, h5.2⟩, ⟨ownsRow_block h6.1 fun b hb => f b (World.ownsRow.lt h6.1 b hb).2 ?_, h6.2⟩⟩
  · intro e2; exact own_ne hg h4 (by rw [hb, e2])
  · intro e2; exact ownR_ne (by decide) hg h5 (by rw [hb, e2])
  · intro e2; exact ownR_ne (by decide) hg h6 (by rw [hb, e2])
theorem ensOwn_at {w w' : World} {g lo hi : Nat} {l : List Row} (h : EnsOwn w lo hi l) (hw : Within w w' g (g + 1)) (hg : ∃ cs, w.heap[g]? = some (.cells cs 53 (0, 0))) : EnsOwn w' lo hi l :=
  ensOwn_map (fun _ => True) (fun _ h => enOwn_at h hw hg) (fun _ _ => trivial) trivial h

set_option maxRecDepth 100000 in
set_option maxHeartbeats 8000000 in
theorem markAllX_any (v : Value) (l : List Row) (lo hi : Nat) (w : World) (ho : OwnR rowC 7 53 w lo hi v l) (hin : EnsOwn w lo hi l) (hhi : hi ≤ w.heap.size) (hm : rowsM l ≤ 4194304) (hs : ∀ x ∈ l, EnSmall x.e) :
    Calls Tryz.prog 20 #[v, .int .i64 1] w fun x w' => x = .returned (.int .i64 (1 + rowsM l)) ∧ OwnR rowC 7 53 w' lo hi v (mkRows 1 l) ∧ EnsOwn w' lo hi (mkRows 1 l) ∧ Within w w' lo hi := by
  have hN := rowsN_M l
  obtain ⟨ao, cap, rfl⟩ := readsR_shape (ownR_reads rowC_len ho)
  by_cases h0 : 0 < l.length
  · obtain ⟨g, cs, rfl, hg1, hg2, hrow, hnc, hcm, hcs⟩ := rows_block ho h0
    have hmlen : (l.length : Int) ≤ 4194304 := by have := rowsM_len l; omega
    have HO0 : OwnsR rowC 7 53 w lo (.slice (some ⟨g, 0, none⟩) l.length cap) (mkRows 1 (l.take 0) ++ l.drop 0) := ho.1
    have HI0 : EnsOwn w lo hi (l.drop 0) := hin
    have hlohi : lo ≤ hi := by omega
    clear ho hin hrow hcs
    go_enter Tryz.func20, Tryz.ntmps20
    go_wp2_with fail
    go_loopw [1, 5] (fun c i wr => ∃ (j a : Nat), j ≤ l.length ∧ i = .int .i64 j ∧ c = .int .i64 ((1 + rowsN (l.take j) : Nat) : Int) ∧ lo ≤ a ∧ Hid (OwnsR rowC 7 53 wr lo (.slice (some ⟨g, 0, none⟩) l.length cap) (mkRows 1 (l.take j) ++ l.drop j)) ∧ Hid (EnsOwn wr lo a (mkRows 1 (l.take j))) ∧ EnsOwn wr a hi (l.drop j) ∧ Within w wr lo hi) (fun _ i _ => l.length - (intOf i).toNat)
    case atStart => exact ⟨0, lo, Nat.zero_le _, rfl, rfl, Nat.le_refl _, HO0, Nat.le_refl lo, HI0, within_refl _ _ _⟩
    case round =>
      obtain ⟨j, a, hj, rfl, rfl, ham, HO, HD, hE, hW⟩ := hrel
      by_cases hlt : j < l.length
      · have hjl : (j : Int) < (l.length : Int) := by omega
        have hsm := hs _ (esAt_mem hlt)
        have hrt := rowsN_take l j
        rw [drop_es hlt] at hE hrt
        obtain ⟨b, hab, hX, hE⟩ := hE
        have hbi := ensOwn_le hE
        have hstep : rowsN (l.take (j + 1)) = rowsN (l.take j) + rowN (esAt l j) := by rw [take_es hlt, rowsN_snoc]
        have HST : Hid _ := hstep
        obtain ⟨k, hk⟩ : ∃ k, 1 + rowsN (l.take j) = k := ⟨_, rfl⟩
        have HKK : Hid (1 + rowsN (l.take j) = k) := hk
        have hkb : (k : Int) + (4 + ((esAt l j).e.list.length : Int) + 2 * ((esAt l j).e.scores.length : Int) + 2 * ((esAt l j).e.fields.length : Int)) ≤ 4194305 := by
          have hrt2 : rowsN (l.take j) + (rowN (esAt l j) + rowsN (l.drop (j + 1))) = rowsN l := hrt
          unfold rowN at hrt2
          omega
        have hk0 : (0 : Int) < (k : Int) := by omega
        rw [hk]
        have hMl : (mkRows 1 (l.take j) ++ l.drop j).length = l.length := row_len hj
        have HM : Hid ((mkRows 1 (l.take j) ++ l.drop j)[j]? = some (esAt l j)) := row_mid hlt
        obtain ⟨M, hMM⟩ : ∃ M, mkRows 1 (l.take j) ++ l.drop j = M := ⟨_, rfl⟩
        have HMM : Hid (mkRows 1 (l.take j) ++ l.drop j = M) := hMM
        rw [hMM] at HO HM hMl
        rw [← hMl] at HO
        clear hrt hstep hk hMM
        go_wp2_with fail
        refine (mark_any k _ hk0 (by omega)).mono ?_
        rintro e w1 ⟨rfl, hb1⟩
        have HO1 : Hid _ := ownsR_kept HO.out hb1
        have HD1 : Hid _ := ensOwn_kept HD.out hb1
        have hX1 := enOwn_kept hX hb1
        have hE1 := ensOwn_kept hE hb1
        have hW1 := within_trans hW (within_below hb1 lo hi)
        clear hb1 HO HD hX hE hW
        have c0 : w1.cell? ⟨g, j * 7, none⟩ = _ := cellR rowC_len HO1.out HM.out 0 _ rfl
        have c1 : w1.cell? ⟨g, j * 7 + 1, none⟩ = _ := cellR rowC_len HO1.out HM.out 1 _ rfl
        have c2 : w1.cell? ⟨g, j * 7 + 2, none⟩ = _ := cellR rowC_len HO1.out HM.out 2 _ rfl
        have fz := fun o => World.ownsRow.frozenAt HO1.out o
        go_wp2_with fail
        have HO2 : Hid _ := store3 HO1.out HM.out (mk k) ((k : Int) + 1) ((k : Int) + 1 + 1)
        have S2 : Within w1 (((w1.setCell ⟨g, j * 7, none⟩ (.string (mk k))).setCell ⟨g, j * 7 + 1, none⟩ (.int .i64 ((k : Int) + 1))).setCell ⟨g, j * 7 + 2, none⟩ (.int .i64 ((k : Int) + 1 + 1))) g (g + 1) := within_set (within_set (within_set (within_refl w1 g (g + 1)) g (j * 7) _ (Nat.le_refl _) (Nat.lt_succ_self _)) g (j * 7 + 1) _ (Nat.le_refl _) (Nat.lt_succ_self _)) g (j * 7 + 2) _ (Nat.le_refl _) (Nat.lt_succ_self _)
        have N1 := ownsR_row HO1.out
        have hX2 := enOwn_at hX1 S2 N1
        have hE2 := ensOwn_at hE1 S2 N1
        have HD2 : Hid _ := ensOwn_at HD1.out S2 N1
        have hW2 := within_trans hW1 (within_mono S2 hg1 (by omega))
        clear c0 c1 c2 fz HO1 HD1 hX1 hE1 hW1 S2 N1
        obtain ⟨w2, hWW⟩ : ∃ W, ((w1.setCell ⟨g, j * 7, none⟩ (.string (mk k))).setCell ⟨g, j * 7 + 1, none⟩ (.int .i64 ((k : Int) + 1))).setCell ⟨g, j * 7 + 2, none⟩ (.int .i64 ((k : Int) + 1 + 1)) = W := ⟨_, rfl⟩
        rw [hWW] at HO2 hX2 hE2 HD2 hW2 ⊢
        clear hWW
        refine (mark_any _ _ (by omega) (by omega)).mono ?_
        rintro e w3 ⟨rfl, hb3⟩
        have HO3 : Hid _ := ownsR_kept HO2.out hb3
        have HD3 : Hid _ := ensOwn_kept HD2.out hb3
        have hX3 := enOwn_kept hX2 hb3
        have hE3 := ensOwn_kept hE2 hb3
        have hW3 := within_trans hW2 (within_below hb3 lo hi)
        clear hb3 HO2 HD2 hX2 hE2 hW2
        have HM3 : Hid _ := set_at (y := rowK (esAt l j) (mk k) ((k : Int) + 1) ((k : Int) + 1 + 1)) HM.out
        have hl3 : (M.set j (rowK (esAt l j) (mk k) ((k : Int) + 1) ((k : Int) + 1 + 1))).length = M.length := List.length_set
        rw [← hl3] at HO3
        have c3 : w3.cell? ⟨g, j * 7 + 3, none⟩ = _ := cellR rowC_len HO3.out HM3.out 3 _ rfl
        have c4 : w3.cell? ⟨g, j * 7 + 4, none⟩ = some (.slice (esAt l j).al (esAt l j).e.list.length (esAt l j).cl) := cellR rowC_len HO3.out HM3.out 4 _ rfl
        have fz := fun o => World.ownsRow.frozenAt HO3.out o
        go_wp2_with fail
        have hst := store1 HO3.out HM3.out (mk ((k : Int) + 1 + 1 + 1))
        rw [List.set_set, hl3] at hst
        have HO4 : Hid _ := hst
        have S4 : Within w3 (w3.setCell ⟨g, j * 7 + 3, none⟩ (.string (mk ((k : Int) + 1 + 1 + 1)))) g (g + 1) := within_set (within_refl w3 g (g + 1)) g (j * 7 + 3) _ (Nat.le_refl _) (Nat.lt_succ_self _)
        have N3 := ownsR_row HO3.out
        have hX4 := enOwn_at hX3 S4 N3
        have hE4 := ensOwn_at hE3 S4 N3
        have HD4 : Hid _ := ensOwn_at HD3.out S4 N3
        have hW4 := within_trans hW3 (within_mono S4 hg1 (by omega))
        clear c3 c4 fz hst HO3 HD3 hX3 hE3 hW3 S4 HM3 hl3 N3
        obtain ⟨w4, hWW⟩ : ∃ W, w3.setCell ⟨g, j * 7 + 3, none⟩ (.string (mk ((k : Int) + 1 + 1 + 1))) = W := ⟨_, rfl⟩
        rw [hWW] at HO4 hX4 hE4 HD4 hW4 ⊢
        clear hWW
        have hcg : rowC (rowT (rowK (esAt l j) (mk k) ((k : Int) + 1) ((k : Int) + 1 + 1)) (mk ((k : Int) + 1 + 1 + 1))) = rowC (mkRow k (esAt l j)) := by
          unfold rowC rowT rowK mkRow mkEnt
          rw [marks_len, scMarks_len, prMarks_len]
        have HO5 : Hid (OwnsR rowC 7 53 w4 lo (.slice (some ⟨g, 0, none⟩) l.length cap) (mkRows 1 (l.take (j + 1)) ++ l.drop (j + 1))) := by
          have := HO4.out
          unfold OwnsR at this ⊢
          rw [List.length_set, flat_cong hcg, hMl] at this
          rw [← HMM.out, row_put hlt (by rw [HKK.out])] at this
          rw [row_len hlt]
          exact this
        clear HO4 hcg HM HMM hMl
        obtain ⟨A, B, hA1, hA2, hA3, hl4, hc4, hf4⟩ := hX4
        have hn1 := hsm.list
        have hn2 := hsm.scores
        have hn3 := hsm.fields
        have HJ : Hid ((mkRows 1 (l.take (j + 1)) ++ l.drop (j + 1))[j]? = some (mkRow k (esAt l j))) := by
          have := row_put_at (k := 1) hlt
          rw [HKK.out] at this; exact this
        have HL : Hid ((mkRows 1 (l.take (j + 1)) ++ l.drop (j + 1)).length = l.length) := row_len hlt
        refine (mark_own_from _ (esAt l j).e.list a A _ _ hl4 (by omega) (by omega) hsm.list).mono ?_
        rintro e w5 ⟨rfl, hl5, hg5⟩
        have V5 := within_grown hg5 (own_in hl4)
        have HO6 : Hid _ := ownsR_ne HO5.out hg5 (own_ne (ownsR_row HO5.out) hl4)
        have HD5 : Hid _ := ensOwn_before V5 (Nat.le_refl _) HD4.out
        have hE5 := ensOwn_within hE4 V5 (by omega)
        have hc5 := ownR_within hc4 V5 (.inr (Nat.le_refl _))
        have hf5 := ownR_within hf4 V5 (.inr hA2)
        have hW5 := within_trans hW4 (within_mono V5 (by omega) (by omega))
        clear hg5 V5 HO5 HD4 hE4 hl4 hc4 hf4 hW4
        have c5 := (mkRow_cells HO6.out HL.out HJ.out).1
        go_wp2_with fail
        refine (markScore_own _ (esAt l j).e.scores A B _ _ hc5 (by omega) (by omega) hsm.scores).mono ?_
        rintro e w6 ⟨rfl, hc6, hg6⟩
        have V6 := within_grown hg6 (ownR_in hc5)
        have HO7 : Hid _ := ownsR_ne HO6.out hg6 (ownR_ne (by decide) (ownsR_row HO6.out) hc5)
        have HD6 : Hid _ := ensOwn_before V6 hA1 HD5.out
        have hE6 := ensOwn_within hE5 V6 (by omega)
        have hl6 := own_within hl5 V6 (.inl (Nat.le_refl _))
        have hf6 := ownR_within hf5 V6 (.inr (Nat.le_refl _))
        have hW6 := within_trans hW5 (within_mono V6 (by omega) (by omega))
        clear hg6 V6 HO6 HD5 hE5 hl5 hc5 hf5 hW5 c5
        have c6 := (mkRow_cells HO7.out HL.out HJ.out).2
        go_wp2_with fail
        refine (markPair_own _ (esAt l j).e.fields B b _ _ hf6 (by omega) (by omega) hsm.fields).mono ?_
        rintro e w7 ⟨rfl, hf7, hg7⟩
        have V7 := within_grown hg7 (ownR_in hf6)
        have HO8 : Hid _ := ownsR_ne HO7.out hg7 (ownR_ne (by decide) (ownsR_row HO7.out) hf6)
        have HD7 : Hid _ := ensOwn_before V7 (Nat.le_trans hA1 hA2) HD6.out
        have hE7 := ensOwn_within hE6 V7 (Nat.le_refl _)
        have hl7 := own_within hl6 V7 (.inl hA2)
        have hc7 := ownR_within hc6 V7 (.inl (Nat.le_refl _))
        have hW7 := within_trans hW6 (within_mono V7 (by omega) (by omega))
        clear hg7 V7 HO7 HD6 hE6 hl6 hc6 hf6 hW6 c6
        have t1 : ((k : Int) + 1 + 1 + 1 + 1).toNat = k + 4 := by omega
        have t2 : ((k : Int) + 1 + 1 + 1 + 1 + ((esAt l j).e.list.length : Int)).toNat = k + 4 + (esAt l j).e.list.length := by omega
        have t3 : ((k : Int) + 1 + 1 + 1 + 1 + ((esAt l j).e.list.length : Int) + 2 * ((esAt l j).e.scores.length : Int)).toNat = k + 4 + (esAt l j).e.list.length + 2 * (esAt l j).e.scores.length := by omega
        rw [t1] at hl7
        rw [t2] at hc7
        rw [t3] at hf7
        have hxx : EnOwn w7 a b (mkRow k (esAt l j)).vl (mkRow k (esAt l j)).vs (mkRow k (esAt l j)).vf (mkRow k (esAt l j)).e := by
          have e1 : (mkRow k (esAt l j)).vl = .slice (esAt l j).al (esAt l j).e.list.length (esAt l j).cl := by
            show Value.slice (esAt l j).al (marks (k + 4) (esAt l j).e.list.length).length (esAt l j).cl = _
            rw [marks_len]
          have e2 : (mkRow k (esAt l j)).vs = .slice (esAt l j).as_ (esAt l j).e.scores.length (esAt l j).cs := by
            show Value.slice (esAt l j).as_ (scMarks _ (esAt l j).e.scores.length).length (esAt l j).cs = _
            rw [scMarks_len]
          have e3 : (mkRow k (esAt l j)).vf = .slice (esAt l j).af (esAt l j).e.fields.length (esAt l j).cf := by
            show Value.slice (esAt l j).af (prMarks _ (esAt l j).e.fields.length).length (esAt l j).cf = _
            rw [prMarks_len]
          rw [e1, e2, e3]
          exact ⟨A, B, hA1, hA2, hA3, hl7, hc7, hf7⟩
        have HD8 : Hid (EnsOwn w7 lo b (mkRows 1 (l.take (j + 1)))) := by
          show EnsOwn w7 lo b (mkRows 1 (l.take (j + 1)))
          rw [take_es hlt, mkRows_snoc, HKK.out]
          exact ensOwn_snoc HD7.out hxx
        have hkk : ((1 + rowsN (l.take (j + 1)) : Nat) : Int) = (k : Int) + 1 + 1 + 1 + 1 + ((esAt l j).e.list.length : Int) + 2 * ((esAt l j).e.scores.length : Int) + 2 * ((esAt l j).e.fields.length : Int) := by
          have h1 := HST.out
          have h2 := HKK.out
          rw [h1]
          unfold rowN
          omega
        have HKN : Hid _ := hkk
        clear hl7 hc7 hf7 hxx HD7 hkk
        have hlt' := hlt
        go_wp2_with fail
        go_roundw
        case rel => exact ⟨j + 1, b, hlt', by go_num, by rw [HKN.out], by omega, HO8, HD8, hE7, hW7⟩
        case measure => simp [intOf]; omega
      · obtain rfl : j = l.length := by omega
        go_wp2_with fail
        go_ret
        have h1 := HO.out
        have h2 := HD.out
        rw [row_all] at h1
        rw [List.take_length] at h2
        have hah : a ≤ hi := by rw [List.drop_length] at hE; exact hE
        refine ⟨by rw [List.take_length, ← hN]; push_cast; rfl, ⟨by unfold OwnsR at h1 ⊢; rw [mkRows_len] at h1 ⊢; exact h1, fun k hk => ?_⟩, ensOwn_up h2 hah, hW⟩
        have : g = k := by simpa [Value.ownBlock] using hk
        omega
  · obtain rfl : l = [] := List.length_eq_zero_iff.1 (by omega)
    go_enter Tryz.func20, Tryz.ntmps20
    go_wp2_with fail
    refine wp_loop_rounds 1 ?_
    rw [rounds_succ]
    go_wp2_with fail
    go_ret
    exact ⟨by unfold rowsM; rfl, ho, hin, within_refl _ _ _⟩
end Go.Proofs.YtooomgffcamijaaGreat
