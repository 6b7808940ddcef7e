/- A group: a name, an id, and what is waited for. How much is left of a purse behind it; a copy in new memory; two that are the same. -/
import Derived.Test.YtbkllceceaedpaaStB
import Derived.Test.YtbkllceceaedpaaPrG
namespace Go.Proofs.Ytbkllceceaedpaa
open Go.RowKit
set_option linter.unusedVariables false

structure GpE where
  name : ByteArray
  t : Int
  n : Int
  l : List Wt
abbrev gpV (x : GpE) (v : Value) : Value := .agg #[.string x.name, .int .i64 x.t, .int .i64 x.n, v]
structure GpFit (x : GpE) : Prop where
  name : x.name.size ≤ maxLen
  t : (Lit.int .i64 x.t).wf = true
  n : (Lit.int .i64 x.n).wf = true
  l : ∀ y ∈ x.l, WtFit y
  len : x.l.length ≤ maxLen
structure GpSmall (x : GpE) : Prop where
  name : x.name.size ≤ 1048576
  len : x.l.length ≤ 1048576
  each : ∀ y ∈ x.l, y.who.size ≤ 1048576

set_option maxHeartbeats 2000000 in
theorem szGroup_any (x : GpE) (v : Value) (left : Int) (w : World) (hr : WtReads w v x.l) (hf : GpFit x) (hl : 0 ≤ left) (hl2 : left ≤ 1048576) :
    Calls Try.prog 65 #[gpV x v, .int .i64 left] w fun e w' => (∃ n : Int, e = .returned (.int .i64 n) ∧ (n < 0 ∨ 0 ≤ n ∧ n ≤ left ∧ GpSmall x)) ∧ Below w.heap.size w w' := by
  obtain ⟨ao, cap, rfl⟩ := readsR_shape hr
  have hB : ∀ A, Below w.heap.size w (w.alloc A) := fun A => (Below.refl _ w).alloc (Nat.le_refl _) A
  have hn := hf.name
  unfold maxLen at hn
  rcases Int.lt_or_le (left - (x.name.size : Int)) 0 with h | h
  · go_enter Try.func65, Try.ntmps65
    go_wp2_with fail
    go_ret
    exact ⟨⟨_, rfl, .inl (by omega)⟩, hB _⟩
  go_enter Try.func65, Try.ntmps65
  go_wp2_with fail
  refine (szWaitS_any _ x.l (left - (x.name.size : Int)) _ (readsR_kept hr (hB _)) hf.l hf.len h (by omega)).mono ?_
  rintro e w1 ⟨⟨m, rfl, hm⟩, hb1⟩
  have hB1 := (hB _).trans (hb1.mono (hB _).size)
  clear hb1
  rcases hm with hm | ⟨hm0, hm1, hms⟩
  · go_wp2_with fail
    go_ret
    exact ⟨⟨_, rfl, .inl (by omega)⟩, hB1⟩
  · have HM : Hid _ := hms
    clear hms
    go_wp2_with fail
    go_ret
    exact ⟨⟨_, rfl, .inr ⟨hm0, by omega, ⟨by omega, HM.out.len, HM.out.each⟩⟩⟩, hB1⟩

set_option maxHeartbeats 4000000 in
theorem toGroup_any (x : GpE) (v : Value) (w : World) (hr : WtReads w v x.l) (hlen : x.l.length ≤ 1048576) :
    Calls Try.prog 69 #[gpV x v] w fun e w' => (∃ u, e = .returned (gpV x u) ∧ WtOwn w' w.heap.size w'.heap.size u x.l) ∧ Below w.heap.size w w' := by
  obtain ⟨ao, cap, rfl⟩ := readsR_shape hr
  obtain ⟨w0, hW⟩ : ∃ W, ((w.alloc (.cells #[.string x.name, .int .i64 x.t, .int .i64 x.n, .slice ao x.l.length cap] 104)).alloc (.cells #[.string ⟨#[]⟩, .int .i64 0, .int .i64 0, .slice none 0 0] 65)).alloc (.cells #[.string x.name, .int .i64 0, .int .i64 0, .slice none 0 0] 65) = W := ⟨_, rfl⟩
  have hB0 : Below w.heap.size w w0 := by rw [← hW]; exact (((Below.refl _ w).alloc (Nat.le_refl _) _).alloc (by simp) _).alloc (by simp; omega) _
  have hz0 : w.heap.size + 3 ≤ w0.heap.size := by rw [← hW]; simp
  obtain ⟨q0, q1, q2⟩ : w0.heap[w.heap.size]? = some _ ∧ w0.heap[w.heap.size + 1]? = some _ ∧ w0.heap[w.heap.size + 2]? = some _ := by rw [← hW]; exact rows3 _ _ _ _
  have Q0 : Hid _ := q0
  have Q1 : Hid _ := q1
  have Q2 : Hid _ := q2
  have b0 : w0.cell? ⟨w.heap.size, 1, none⟩ = some (.int .i64 x.t) := cellAt_row q0 1
  have b1 : w0.cell? ⟨w.heap.size, 2, none⟩ = some (.int .i64 x.n) := cellAt_row q0 2
  clear q0 q1 q2
  go_enter Try.func69, Try.ntmps69
  go_wp2_with fail
  clear hW b0 b1
  refine (toId_ab x.t x.n _).mono ?_
  rintro e w1 ⟨rfl, hb1⟩
  have hB1 := hB0.trans (hb1.mono hB0.size)
  have q0 := (hb1.block w.heap.size (by omega)).trans Q0.out
  have q1 := (hb1.block (w.heap.size + 1) (by omega)).trans Q1.out
  have q2 := (hb1.block (w.heap.size + 2) (by omega)).trans Q2.out
  have hz1 := hb1.size
  have c2 : w1.cell? ⟨w.heap.size, 3, none⟩ = some (.slice ao x.l.length cap) := cellAt_row q0 3
  have d0 : w1.cell? ⟨w.heap.size + 2, 1, none⟩ = some (.int .i64 0) := cellAt_row q2 1
  have d1 : w1.cell? ⟨w.heap.size + 2, 2, none⟩ = some (.int .i64 0) := cellAt_row q2 2
  have f2 : ∀ o, w1.frozen? ⟨w.heap.size + 2, o, none⟩ = false := frozenAt_row q2
  have P1 : Hid _ := q1
  have P2 : Hid _ := q2
  clear Q0 Q1 Q2 q0 q1 q2 hb1 hB0
  go_wp2_with fail
  obtain ⟨w1s, hW⟩ : ∃ W, (w1.setCell ⟨w.heap.size + 1 + 1, 1, none⟩ (.int .i64 x.t)).setCell ⟨w.heap.size + 1 + 1, 2, none⟩ (.int .i64 x.n) = W := ⟨_, rfl⟩
  have hb1 : Below (w.heap.size + 2) w1 w1s := by rw [← hW]; exact ((Below.refl _ w1).setCell (by simp) _).setCell (by simp) _
  have hz1s : w1s.heap.size = w1.heap.size := by rw [← hW, set_size, set_size]
  have q1 := (hb1.block (w.heap.size + 1) (by omega)).trans P1.out
  have q2 : w1s.heap[w.heap.size + 2]? = some (.cells #[.string x.name, .int .i64 x.t, .int .i64 x.n, .slice none 0 0] 65 (0, 0)) := by
    rw [← hW, show w.heap.size + 2 = w.heap.size + 1 + 1 from rfl, heap_setCell_same _ (w.heap.size + 1 + 1) 2 _ _ _ (heap_setCell_same _ (w.heap.size + 1 + 1) 1 _ _ _ P2.out)]; rfl
  have hB1s := hB1.trans (hb1.mono (by omega))
  rw [hW]
  have P1 : Hid _ := q1
  have P2 : Hid _ := q2
  clear hW hb1 q1 q2 c2 d0 d1 f2 hB1
  refine (toWaitS_any _ x.l _ (readsR_kept hr hB1s) hlen).mono ?_
  rintro e w2 ⟨u, rfl, ou, hb2⟩
  have hB2 := hB1s.trans (hb2.mono hB1s.size)
  have hz2 := hb2.size
  have q1 := (hb2.block (w.heap.size + 1) (by omega)).trans P1.out
  have q2 := (hb2.block (w.heap.size + 2) (by omega)).trans P2.out
  have OU : Hid (WtOwn w2 w1s.heap.size w2.heap.size u x.l) := ownR_of ou
  obtain ⟨au, cu, rfl⟩ := readsR_shape (ownsR_reads wtC_len ou)
  have d0 : w2.cell? ⟨w.heap.size + 2, 0, none⟩ = some (.string x.name) := cellAt_row q2 0
  have d1 : w2.cell? ⟨w.heap.size + 2, 1, none⟩ = some (.int .i64 x.t) := cellAt_row q2 1
  have d2 : w2.cell? ⟨w.heap.size + 2, 2, none⟩ = some (.int .i64 x.n) := cellAt_row q2 2
  have d3 : w2.cell? ⟨w.heap.size + 2, 3, none⟩ = some (.slice none 0 0) := cellAt_row q2 3
  have e0 : w2.cell? ⟨w.heap.size + 1, 0, none⟩ = some (.string ⟨#[]⟩) := cellAt_row q1 0
  have e1 : w2.cell? ⟨w.heap.size + 1, 1, none⟩ = some (.int .i64 0) := cellAt_row q1 1
  have e2 : w2.cell? ⟨w.heap.size + 1, 2, none⟩ = some (.int .i64 0) := cellAt_row q1 2
  have e3 : w2.cell? ⟨w.heap.size + 1, 3, none⟩ = some (.slice none 0 0) := cellAt_row q1 3
  have f1 : ∀ o, w2.frozen? ⟨w.heap.size + 1, o, none⟩ = false := frozenAt_row q1
  have f2 : ∀ o, w2.frozen? ⟨w.heap.size + 2, o, none⟩ = false := frozenAt_row q2
  have P1 : Hid _ := q1
  clear P2 q1 q2 hb2 hB1s ou
  go_wp2_with fail
  have hb3 : Below (w.heap.size + 1 + 1) w2 (w2.setCell ⟨w.heap.size + 1 + 1, 3, none⟩ (.slice au x.l.length cu)) := (Below.refl (w.heap.size + 1 + 1) w2).setCell (by simp) _
  have hO3 := ownR_set OU.out ⟨w.heap.size + 1 + 1, 3, none⟩ (.slice au x.l.length cu) (by show w.heap.size + 1 + 1 < _; omega)
  refine bodyPost_ret (results_cell_row rfl _ _ (w.heap.size + 1) 65 _ (0, 0) _ rfl (put4_row ((hb3.block (w.heap.size + 1) (by omega)).trans P1.out) _ _ _ _) Try.underlying65 rfl (by kernel_rfl)) rfl ?_
  exact ⟨⟨_, rfl, ownR_lower (put4_own hO3 (by omega) _ _ _ _) (by omega) (by rw [put4_size, set_size]; exact Nat.le_refl _)⟩, put4_below (hB2.trans (hb3.mono (by omega))) (Nat.le_succ _) _ _ _ _⟩

set_option maxHeartbeats 2000000 in
theorem eqGroup_true (x : GpE) (v u : Value) (w : World) (hr : WtReads w v x.l) (hq : WtReads w u x.l) (hlen : x.l.length ≤ 1048576) :
    Calls Try.prog 79 #[gpV x v, gpV x u] w fun e w' => e = .returned (.bool true) ∧ Below w.heap.size w w' := by
  obtain ⟨ao, cap, rfl⟩ := readsR_shape hr
  obtain ⟨au, cu, rfl⟩ := readsR_shape hq
  obtain ⟨w0, hW⟩ : ∃ W, (w.alloc (.cells #[.string x.name, .int .i64 x.t, .int .i64 x.n, .slice ao x.l.length cap] 65)).alloc (.cells #[.string x.name, .int .i64 x.t, .int .i64 x.n, .slice au x.l.length cu] 65) = W := ⟨_, rfl⟩
  have hB0 : Below w.heap.size w w0 := by rw [← hW]; exact ((Below.refl _ w).alloc (Nat.le_refl _) _).alloc (by simp) _
  have hz0 : w.heap.size + 2 ≤ w0.heap.size := by rw [← hW]; simp
  have q0 : w0.heap[w.heap.size]? = some (.cells #[.string x.name, .int .i64 x.t, .int .i64 x.n, .slice ao x.l.length cap] 65 (0, 0)) := by rw [← hW, Below.heap_alloc _ _ _ (by simp)]; exact heap_alloc_new w _
  have q1 : w0.heap[w.heap.size + 1]? = some (.cells #[.string x.name, .int .i64 x.t, .int .i64 x.n, .slice au x.l.length cu] 65 (0, 0)) := by
    rw [← hW]
    have := heap_alloc_new (w.alloc (.cells #[.string x.name, .int .i64 x.t, .int .i64 x.n, .slice ao x.l.length cap] 65)) (.cells #[.string x.name, .int .i64 x.t, .int .i64 x.n, .slice au x.l.length cu] 65)
    rw [World.size_alloc] at this; exact this
  have Q0 : Hid _ := q0
  have Q1 : Hid _ := q1
  have hs : (x.name.toList == x.name.toList) = true := by simp
  have a0 : w0.cell? ⟨w.heap.size, 0, none⟩ = some (.string x.name) := cellAt_row q0 0
  have a1 : w0.cell? ⟨w.heap.size + 1, 0, none⟩ = some (.string x.name) := cellAt_row q1 0
  have b0 : w0.cell? ⟨w.heap.size, 1, none⟩ = some (.int .i64 x.t) := cellAt_row q0 1
  have b1 : w0.cell? ⟨w.heap.size, 2, none⟩ = some (.int .i64 x.n) := cellAt_row q0 2
  have b2 : w0.cell? ⟨w.heap.size + 1, 1, none⟩ = some (.int .i64 x.t) := cellAt_row q1 1
  have b3 : w0.cell? ⟨w.heap.size + 1, 2, none⟩ = some (.int .i64 x.n) := cellAt_row q1 2
  clear q0 q1
  go_enter Try.func79, Try.ntmps79
  go_wp2_with fail
  clear hW b0 b1 b2 b3
  refine (eqId_ab x.t x.n _).mono ?_
  rintro e w1 ⟨rfl, hb1⟩
  have hB1 := hB0.trans (hb1.mono hB0.size)
  have q0 := (hb1.block w.heap.size (by omega)).trans Q0.out
  have q1 := (hb1.block (w.heap.size + 1) (by omega)).trans Q1.out
  have c2 : w1.cell? ⟨w.heap.size, 3, none⟩ = some (.slice ao x.l.length cap) := cellAt_row q0 3
  have d2 : w1.cell? ⟨w.heap.size + 1, 3, none⟩ = some (.slice au x.l.length cu) := cellAt_row q1 3
  clear Q0 Q1 q0 q1 hb1 hB0
  go_wp2_with fail
  refine (eqWaitS_true _ _ x.l _ (readsR_kept hr hB1) (readsR_kept hq hB1) hlen).mono ?_
  rintro e w2 ⟨rfl, hb2⟩
  have hB2 := hB1.trans (hb2.mono hB1.size)
  clear hb2 hB1 c2 d2
  go_wp2_with fail
  go_ret
  exact ⟨rfl, hB2⟩
end Go.Proofs.Ytbkllceceaedpaa
