/- An item: an id, and fields. How much is left of a purse behind it; a copy in new memory; two that are the same. -/
import Derived.Test.YtbkllceceaedpaaStB
import Derived.Test.YtbkllceceaedpaaPrG
namespace Go.Proofs.Ytbkllceceaedpaa
open Go.RowKit
set_option linter.unusedVariables false

structure ItE where
  t : Int
  n : Int
  l : List (ByteArray × ByteArray)
abbrev itV (x : ItE) (v : Value) : Value := .agg #[.int .i64 x.t, .int .i64 x.n, v]
structure ItFit (x : ItE) : Prop where
  t : (Lit.int .i64 x.t).wf = true
  n : (Lit.int .i64 x.n).wf = true
  l : prFit x.l
  len : x.l.length ≤ maxLen
structure ItSmall (x : ItE) : Prop where
  len : x.l.length ≤ 1048576

set_option maxHeartbeats 2000000 in
theorem szItem_any (x : ItE) (v : Value) (left : Int) (w : World) (hr : PrReads w v x.l) (hf : ItFit x) (hl : 0 ≤ left) (hl2 : left ≤ 1048576) :
    Calls Try.prog 64 #[itV x v, .int .i64 left] w fun e w' => (∃ n : Int, e = .returned (.int .i64 n) ∧ (n < 0 ∨ 0 ≤ n ∧ n ≤ left ∧ ItSmall x)) ∧ Below w.heap.size w w' := by
  obtain ⟨ao, cap, rfl⟩ := readsR_shape hr
  have hB : ∀ A, Below w.heap.size w (w.alloc A) := fun A => (Below.refl _ w).alloc (Nat.le_refl _) A
  go_enter Try.func64, Try.ntmps64
  go_wp2_with fail
  refine (szPairS_any _ x.l left _ (readsR_kept hr (hB _)) hl hl2 hf.l hf.len).mono ?_
  rintro e w1 ⟨rfl, hb1⟩
  have hB1 := (hB _).trans (hb1.mono (hB _).size)
  clear hb1
  rcases Int.lt_or_le (szW prW x.l left) 0 with hm | hm
  · go_wp2_with fail
    go_ret
    exact ⟨⟨_, rfl, .inl (by omega)⟩, hB1⟩
  · have hq := szW_len prW_pos hm
    have h1 := hq.1
    have h2 := hq.2.1
    clear hq
    go_wp2_with fail
    go_ret
    exact ⟨⟨_, rfl, .inr ⟨hm, by omega, ⟨by omega⟩⟩⟩, hB1⟩

set_option maxHeartbeats 4000000 in
theorem toItem_any (x : ItE) (v : Value) (w : World) (hr : PrReads w v x.l) (hlen : x.l.length ≤ 1048576) :
    Calls Try.prog 68 #[itV x v] w fun e w' => (∃ u, e = .returned (itV x u) ∧ PrOwn w' w.heap.size w'.heap.size u x.l) ∧ Below w.heap.size w w' := by
  obtain ⟨ao, cap, rfl⟩ := readsR_shape hr
  obtain ⟨w0, hW⟩ : ∃ W, ((w.alloc (.cells #[.int .i64 x.t, .int .i64 x.n, .slice ao x.l.length cap] 100)).alloc (.cells #[.int .i64 0, .int .i64 0, .slice none 0 0] 59)).alloc (.cells #[.int .i64 0, .int .i64 0, .slice none 0 0] 59) = W := ⟨_, rfl⟩
  have hB0 : Below w.heap.size w w0 := by rw [← hW]; exact (((Below.refl _ w).alloc (Nat.le_refl _) _).alloc (by simp) _).alloc (by simp; omega) _
  have hz0 : w.heap.size + 3 ≤ w0.heap.size := by rw [← hW]; simp
  obtain ⟨q0, q1, q2⟩ : w0.heap[w.heap.size]? = some _ ∧ w0.heap[w.heap.size + 1]? = some _ ∧ w0.heap[w.heap.size + 2]? = some _ := by rw [← hW]; exact rows3 _ _ _ _
  have Q0 : Hid _ := q0
  have Q1 : Hid _ := q1
  have Q2 : Hid _ := q2
  have b0 : w0.cell? ⟨w.heap.size, 0, none⟩ = some (.int .i64 x.t) := cellAt_row q0 0
  have b1 : w0.cell? ⟨w.heap.size, 1, none⟩ = some (.int .i64 x.n) := cellAt_row q0 1
  clear q0 q1 q2
  go_enter Try.func68, Try.ntmps68
  go_wp2_with fail
  clear hW b0 b1
  refine (toId_ab x.t x.n _).mono ?_
  rintro e w1 ⟨rfl, hb1⟩
  have hB1 := hB0.trans (hb1.mono hB0.size)
  have q0 := (hb1.block w.heap.size (by omega)).trans Q0.out
  have q1 := (hb1.block (w.heap.size + 1) (by omega)).trans Q1.out
  have q2 := (hb1.block (w.heap.size + 2) (by omega)).trans Q2.out
  have hz1 := hb1.size
  have c2 : w1.cell? ⟨w.heap.size, 2, none⟩ = some (.slice ao x.l.length cap) := cellAt_row q0 2
  have d0 : w1.cell? ⟨w.heap.size + 2, 0, none⟩ = some (.int .i64 0) := cellAt_row q2 0
  have d1 : w1.cell? ⟨w.heap.size + 2, 1, none⟩ = some (.int .i64 0) := cellAt_row q2 1
  have f2 : ∀ o, w1.frozen? ⟨w.heap.size + 2, o, none⟩ = false := frozenAt_row q2
  have P1 : Hid _ := q1
  have P2 : Hid _ := q2
  clear Q0 Q1 Q2 q0 q1 q2 hb1 hB0
  go_wp2_with fail
  obtain ⟨w1s, hW⟩ : ∃ W, (w1.setCell ⟨w.heap.size + 1 + 1, 0, none⟩ (.int .i64 x.t)).setCell ⟨w.heap.size + 1 + 1, 1, none⟩ (.int .i64 x.n) = W := ⟨_, rfl⟩
  have hb1 : Below (w.heap.size + 2) w1 w1s := by rw [← hW]; exact ((Below.refl _ w1).setCell (by simp) _).setCell (by simp) _
  have hz1s : w1s.heap.size = w1.heap.size := by rw [← hW, set_size, set_size]
  have q1 := (hb1.block (w.heap.size + 1) (by omega)).trans P1.out
  have q2 : w1s.heap[w.heap.size + 2]? = some (.cells #[.int .i64 x.t, .int .i64 x.n, .slice none 0 0] 59 (0, 0)) := by
    rw [← hW, show w.heap.size + 2 = w.heap.size + 1 + 1 from rfl, heap_setCell_same _ (w.heap.size + 1 + 1) 1 _ _ _ (heap_setCell_same _ (w.heap.size + 1 + 1) 0 _ _ _ P2.out)]; rfl
  have hB1s := hB1.trans (hb1.mono (by omega))
  rw [hW]
  have P1 : Hid _ := q1
  have P2 : Hid _ := q2
  clear hW hb1 q1 q2 c2 d0 d1 f2 hB1
  refine (toPairS_any _ x.l _ (readsR_kept hr hB1s) hlen).mono ?_
  rintro e w2 ⟨u, rfl, ou, hb2⟩
  have hB2 := hB1s.trans (hb2.mono hB1s.size)
  have hz2 := hb2.size
  have q1 := (hb2.block (w.heap.size + 1) (by omega)).trans P1.out
  have q2 := (hb2.block (w.heap.size + 2) (by omega)).trans P2.out
  have OU : Hid (PrOwn w2 w1s.heap.size w2.heap.size u x.l) := ownR_of ou
  obtain ⟨au, cu, rfl⟩ := readsR_shape (ownsR_reads prC_len ou)
  have d1 : w2.cell? ⟨w.heap.size + 2, 0, none⟩ = some (.int .i64 x.t) := cellAt_row q2 0
  have d2 : w2.cell? ⟨w.heap.size + 2, 1, none⟩ = some (.int .i64 x.n) := cellAt_row q2 1
  have d3 : w2.cell? ⟨w.heap.size + 2, 2, none⟩ = some (.slice none 0 0) := cellAt_row q2 2
  have e1 : w2.cell? ⟨w.heap.size + 1, 0, none⟩ = some (.int .i64 0) := cellAt_row q1 0
  have e2 : w2.cell? ⟨w.heap.size + 1, 1, none⟩ = some (.int .i64 0) := cellAt_row q1 1
  have e3 : w2.cell? ⟨w.heap.size + 1, 2, none⟩ = some (.slice none 0 0) := cellAt_row q1 2
  have f1 : ∀ o, w2.frozen? ⟨w.heap.size + 1, o, none⟩ = false := frozenAt_row q1
  have f2 : ∀ o, w2.frozen? ⟨w.heap.size + 2, o, none⟩ = false := frozenAt_row q2
  have P1 : Hid _ := q1
  clear P2 q1 q2 hb2 hB1s ou
  go_wp2_with fail
  have hb3 : Below (w.heap.size + 1 + 1) w2 (w2.setCell ⟨w.heap.size + 1 + 1, 2, none⟩ (.slice au x.l.length cu)) := (Below.refl (w.heap.size + 1 + 1) w2).setCell (by simp) _
  have hO3 := ownR_set OU.out ⟨w.heap.size + 1 + 1, 2, none⟩ (.slice au x.l.length cu) (by show w.heap.size + 1 + 1 < _; omega)
  refine bodyPost_ret (results_cell_row rfl _ _ (w.heap.size + 1) 59 _ (0, 0) _ rfl (put3_row ((hb3.block (w.heap.size + 1) (by omega)).trans P1.out) _ _ _) Try.underlying59 rfl (by kernel_rfl)) rfl ?_
  exact ⟨⟨_, rfl, ownR_lower (put3_own hO3 (by omega) _ _ _) (by omega) (by rw [put3_size, set_size]; exact Nat.le_refl _)⟩, put3_below (hB2.trans (hb3.mono (by omega))) (Nat.le_succ _) _ _ _⟩

set_option maxHeartbeats 2000000 in
theorem eqItem_true (x : ItE) (v u : Value) (w : World) (hr : PrReads w v x.l) (hq : PrReads w u x.l) (hlen : x.l.length ≤ 1048576) :
    Calls Try.prog 51 #[itV x v, itV x u] w fun e w' => e = .returned (.bool true) ∧ Below w.heap.size w w' := by
  obtain ⟨ao, cap, rfl⟩ := readsR_shape hr
  obtain ⟨au, cu, rfl⟩ := readsR_shape hq
  obtain ⟨w0, hW⟩ : ∃ W, (w.alloc (.cells #[.int .i64 x.t, .int .i64 x.n, .slice ao x.l.length cap] 59)).alloc (.cells #[.int .i64 x.t, .int .i64 x.n, .slice au x.l.length cu] 59) = W := ⟨_, rfl⟩
  have hB0 : Below w.heap.size w w0 := by rw [← hW]; exact ((Below.refl _ w).alloc (Nat.le_refl _) _).alloc (by simp) _
  have hz0 : w.heap.size + 2 ≤ w0.heap.size := by rw [← hW]; simp
  have q0 : w0.heap[w.heap.size]? = some (.cells #[.int .i64 x.t, .int .i64 x.n, .slice ao x.l.length cap] 59 (0, 0)) := by rw [← hW, Below.heap_alloc _ _ _ (by simp)]; exact heap_alloc_new w _
  have q1 : w0.heap[w.heap.size + 1]? = some (.cells #[.int .i64 x.t, .int .i64 x.n, .slice au x.l.length cu] 59 (0, 0)) := by
    rw [← hW]
    have := heap_alloc_new (w.alloc (.cells #[.int .i64 x.t, .int .i64 x.n, .slice ao x.l.length cap] 59)) (.cells #[.int .i64 x.t, .int .i64 x.n, .slice au x.l.length cu] 59)
    rw [World.size_alloc] at this; exact this
  have Q0 : Hid _ := q0
  have Q1 : Hid _ := q1
  have b0 : w0.cell? ⟨w.heap.size, 0, none⟩ = some (.int .i64 x.t) := cellAt_row q0 0
  have b1 : w0.cell? ⟨w.heap.size, 1, none⟩ = some (.int .i64 x.n) := cellAt_row q0 1
  have b2 : w0.cell? ⟨w.heap.size + 1, 0, none⟩ = some (.int .i64 x.t) := cellAt_row q1 0
  have b3 : w0.cell? ⟨w.heap.size + 1, 1, none⟩ = some (.int .i64 x.n) := cellAt_row q1 1
  clear q0 q1
  go_enter Try.func51, Try.ntmps51
  go_wp2_with fail
  clear hW b0 b1 b2 b3
  refine (eqId_ab x.t x.n _).mono ?_
  rintro e w1 ⟨rfl, hb1⟩
  have hB1 := hB0.trans (hb1.mono hB0.size)
  have q0 := (hb1.block w.heap.size (by omega)).trans Q0.out
  have q1 := (hb1.block (w.heap.size + 1) (by omega)).trans Q1.out
  have c2 : w1.cell? ⟨w.heap.size, 2, none⟩ = some (.slice ao x.l.length cap) := cellAt_row q0 2
  have d2 : w1.cell? ⟨w.heap.size + 1, 2, none⟩ = some (.slice au x.l.length cu) := cellAt_row q1 2
  clear Q0 Q1 q0 q1 hb1 hB0
  go_wp2_with fail
  refine (eqPairS_true _ _ x.l _ (readsR_kept hr hB1) (readsR_kept hq hB1) hlen).mono ?_
  rintro e w2 ⟨rfl, hb2⟩
  have hB2 := hB1.trans (hb2.mono hB1.size)
  clear hb2 hB1 c2 d2
  go_wp2_with fail
  go_ret
  exact ⟨rfl, hB2⟩
end Go.Proofs.Ytbkllceceaedpaa
