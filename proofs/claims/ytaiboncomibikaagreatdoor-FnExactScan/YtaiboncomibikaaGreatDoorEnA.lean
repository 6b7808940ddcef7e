/- An entry: a struct of seven cells with three slices inside. How much is left of a purse behind it; a copy in new memory; are two alike. -/
import Derived.Test.YtaiboncomibikaaGreatDoorScG
import Derived.Test.YtaiboncomibikaaGreatDoorPrG
import Derived.Test.YtaiboncomibikaaGreatDoorSetOk
import Derived.Test.YtaiboncomibikaaGreatDoorOwn
namespace Go.Proofs.YtaiboncomibikaaGreatDoor
open Go.RowKit

structure Ent where
  key : ByteArray
  til : Int
  kind : Int
  text : ByteArray
  list : List ByteArray
  scores : List (ByteArray × Int)
  fields : List (ByteArray × ByteArray)
/-- an entry's value, its lists where they are -/
abbrev enV (e : Ent) (vl vs vf : Value) : Value := .agg #[.string e.key, .int .i64 e.til, .int .i64 e.kind, .string e.text, vl, vs, vf]
structure EnReads (w : World) (vl vs vf : Value) (e : Ent) : Prop where
  l : Reads w vl e.list
  s : ScReads w vs e.scores
  f : PrReads w vf e.fields
structure EnFit (e : Ent) : Prop where
  key : e.key.size ≤ maxLen
  til : (Lit.int .i64 e.til).wf = true
  kind : (Lit.int .i64 e.kind).wf = true
  text : e.text.size ≤ maxLen
  list : ∀ s ∈ e.list, s.size ≤ maxLen
  listn : e.list.length ≤ maxLen
  scores : scFit e.scores
  scoresn : e.scores.length ≤ maxLen
  fields : prFit e.fields
  fieldsn : e.fields.length ≤ maxLen
/-- what a purse of 2^20 is enough for -/
structure EnSmall (e : Ent) : Prop where
  key : e.key.size ≤ 1048576
  text : e.text.size ≤ 1048576
  list : e.list.length ≤ 1048576
  scores : e.scores.length ≤ 1048576
  fields : e.fields.length ≤ 1048576
theorem enReads_kept {w w' : World} {vl vs vf : Value} {e : Ent} (h : EnReads w vl vs vf e) (hb : Below w.heap.size w w') : EnReads w' vl vs vf e :=
  ⟨reads_kept h.l hb, readsR_kept h.s hb, readsR_kept h.f hb⟩
theorem enReads_shape {w : World} {vl vs vf : Value} {e : Ent} (h : EnReads w vl vs vf e) : ∃ al cl as_ cs af cf, vl = .slice al e.list.length cl ∧ vs = .slice as_ e.scores.length cs ∧ vf = .slice af e.fields.length cf := by
  obtain ⟨al, cl, h1⟩ := reads_shape h.l
  obtain ⟨a2, c2, h2⟩ := readsR_shape h.s
  obtain ⟨a3, c3, h3⟩ := readsR_shape h.f
  exact ⟨_, _, _, _, _, _, h1, h2, h3⟩

/-- seven cells in a box of their own -/
structure Box7 (w : World) (B : Nat) (x0 x1 x2 x3 x4 x5 x6 : Value) : Prop where
  c0 : w.cell? ⟨B, 0, none⟩ = some x0
  c1 : w.cell? ⟨B, 1, none⟩ = some x1
  c2 : w.cell? ⟨B, 2, none⟩ = some x2
  c3 : w.cell? ⟨B, 3, none⟩ = some x3
  c4 : w.cell? ⟨B, 4, none⟩ = some x4
  c5 : w.cell? ⟨B, 5, none⟩ = some x5
  c6 : w.cell? ⟨B, 6, none⟩ = some x6
theorem box7_row {w : World} {B : Nat} {x0 x1 x2 x3 x4 x5 x6 : Value} {t : TypeId} {fr : Nat × Nat} (h : w.heap[B]? = some (.cells #[x0, x1, x2, x3, x4, x5, x6] t fr)) : Box7 w B x0 x1 x2 x3 x4 x5 x6 :=
  ⟨by rw [cell_of_row _ _ _ _ _ _ h]; rfl, by rw [cell_of_row _ _ _ _ _ _ h]; rfl, by rw [cell_of_row _ _ _ _ _ _ h]; rfl, by rw [cell_of_row _ _ _ _ _ _ h]; rfl, by rw [cell_of_row _ _ _ _ _ _ h]; rfl, by rw [cell_of_row _ _ _ _ _ _ h]; rfl, by rw [cell_of_row _ _ _ _ _ _ h]; rfl⟩
theorem box7_below {B' : Nat} {w w' : World} {B : Nat} {x0 x1 x2 x3 x4 x5 x6 : Value} (h : Box7 w B x0 x1 x2 x3 x4 x5 x6) (hb : Below B' w w') (hlt : B < B') : Box7 w' B x0 x1 x2 x3 x4 x5 x6 :=
  ⟨(hb.cell (p := ⟨B, 0, none⟩) hlt).trans h.c0, (hb.cell (p := ⟨B, 1, none⟩) hlt).trans h.c1, (hb.cell (p := ⟨B, 2, none⟩) hlt).trans h.c2, (hb.cell (p := ⟨B, 3, none⟩) hlt).trans h.c3, (hb.cell (p := ⟨B, 4, none⟩) hlt).trans h.c4, (hb.cell (p := ⟨B, 5, none⟩) hlt).trans h.c5, (hb.cell (p := ⟨B, 6, none⟩) hlt).trans h.c6⟩

set_option maxHeartbeats 4000000 in
theorem szEntry_any (e : Ent) (vl vs vf : Value) (left : Int) (w : World) (hr : EnReads w vl vs vf e) (hf : EnFit e) (hl : 0 ≤ left) (hl2 : left ≤ 1048576) :
    Calls Tryz.prog 22 #[enV e vl vs vf, .int .i64 left] w fun x w' => (∃ n : Int, x = .returned (.int .i64 n) ∧ (n < 0 ∨ 0 ≤ n ∧ n ≤ left ∧ EnSmall e)) ∧ Below w.heap.size w w' := by
  obtain ⟨al, cl, as_, cs, af, cf, rfl, rfl, rfl⟩ := enReads_shape hr
  have hk := hf.key
  have ht := hf.text
  unfold maxLen at hk ht
  have hB0 : Below w.heap.size w (w.alloc (.cells #[.string e.key, .int .i64 e.til, .int .i64 e.kind, .string e.text, .slice al e.list.length cl, .slice as_ e.scores.length cs, .slice af e.fields.length cf] 53)) := (Below.refl _ w).alloc (Nat.le_refl _) _
  have hrow := heap_alloc_new w (.cells #[.string e.key, .int .i64 e.til, .int .i64 e.kind, .string e.text, .slice al e.list.length cl, .slice as_ e.scores.length cs, .slice af e.fields.length cf] 53)
  have HROW : Hid _ := hrow
  clear hrow
  rcases Int.lt_or_le (left - (e.key.size : Int)) 0 with h1 | h1
  · go_enter Tryz.func22, Tryz.ntmps22
    go_wp2_with fail
    go_ret
    exact ⟨⟨_, rfl, .inl (by omega)⟩, hB0⟩
  rcases Int.lt_or_le (left - (e.key.size : Int) - (e.text.size : Int)) 0 with h2 | h2
  · go_enter Tryz.func22, Tryz.ntmps22
    go_wp2_with fail
    go_ret
    exact ⟨⟨_, rfl, .inl (by omega)⟩, hB0⟩
  obtain ⟨L1, hL1⟩ : ∃ x, left - (e.key.size : Int) - (e.text.size : Int) = x := ⟨_, rfl⟩
  have hL : L1 ≤ left := by omega
  go_enter Tryz.func22, Tryz.ntmps22
  go_wp2_with fail
  refine (sz_any _ e.list _ _ (reads_kept hr.l hB0) (by omega) (by omega) hf.list hf.listn).mono ?_
  rintro x w' ⟨rfl, rfl⟩
  rw [hL1] at *
  rcases Int.lt_or_le (sz e.list L1) 0 with h3 | h3
  · go_wp2_with fail
    go_ret
    exact ⟨⟨_, rfl, .inl (by omega)⟩, hB0⟩
  have hq := sz_len h3
  have hn1 := hq.1
  have hn2 := hq.2.1
  clear hq
  go_wp2_with fail
  refine (szScoreS_any _ e.scores _ _ (readsR_kept hr.s hB0) (by omega) (by omega) hf.scores hf.scoresn).mono ?_
  rintro x w1 ⟨rfl, hb1⟩
  have hB1 := hB0.trans (hb1.mono hB0.size)
  have hx := box7_row ((hb1.block w.heap.size (by simp)).trans HROW.out)
  have hx6 := hx.c6
  clear hx hb1
  rcases Int.lt_or_le (szW scW e.scores (sz e.list L1)) 0 with h4 | h4
  · go_wp2_with fail
    go_ret
    exact ⟨⟨_, rfl, .inl (by omega)⟩, hB1⟩
  have hq := szW_len scW_pos h4
  have hn3 := hq.1
  have hn4 := hq.2.1
  clear hq
  go_wp2_with fail
  refine (szPairS_any _ e.fields _ _ (readsR_kept hr.f hB1) (by omega) (by omega) hf.fields hf.fieldsn).mono ?_
  rintro x w2 ⟨rfl, hb2⟩
  have hB2 := hB1.trans (hb2.mono hB1.size)
  clear hb2
  rcases Int.lt_or_le (szW prW e.fields (szW scW e.scores (sz e.list L1))) 0 with h5 | h5
  · go_wp2_with fail
    go_ret
    exact ⟨⟨_, rfl, .inl (by omega)⟩, hB2⟩
  have hq := szW_len prW_pos h5
  have hn5 := hq.1
  have hn6 := hq.2.1
  clear hq
  go_wp2_with fail
  go_ret
  exact ⟨⟨_, rfl, .inr ⟨h5, by omega, ⟨by omega, by omega, by omega, by omega, by omega⟩⟩⟩, hB2⟩

/-- an entry's lists lie each in a stretch of its own -/
def EnOwn (w : World) (lo hi : Nat) (vl vs vf : Value) (e : Ent) : Prop :=
  ∃ a b, lo ≤ a ∧ a ≤ b ∧ b ≤ hi ∧ Own w lo a vl e.list ∧ ScOwn w a b vs e.scores ∧ PrOwn w b hi vf e.fields
theorem enOwn_reads {w : World} {lo hi : Nat} {vl vs vf : Value} {e : Ent} (h : EnOwn w lo hi vl vs vf e) : EnReads w vl vs vf e := by
  obtain ⟨a, b, _, _, _, h1, h2, h3⟩ := h
  exact ⟨own_reads h1, ownR_reads scC_len h2, ownR_reads prC_len h3⟩
theorem enOwn_kept {w w' : World} {lo hi : Nat} {vl vs vf : Value} {e : Ent} (h : EnOwn w lo hi vl vs vf e) (hb : Below w.heap.size w w') : EnOwn w' lo hi vl vs vf e := by
  obtain ⟨a, b, h1, h2, h3, h4, h5, h6⟩ := h
  exact ⟨a, b, h1, h2, h3, own_kept h4 hb, ownR_kept h5 hb, ownR_kept h6 hb⟩
theorem grown_cell (w : World) (a : Addr) (u : Value) : w.grownBy (w.setCell a u) (some a.block) :=
  ⟨rfl, rfl, rfl, ((Below.refl 0 w).setCell (p := a) (Nat.zero_le _) u).size, fun k hk hne => Below.heap_setCell w a u k (fun e => hne (by rw [e]))⟩
theorem ownR_cell {α : Type} {c : α → List Value} {sz : Nat} {t : TypeId} {w : World} {lo hi : Nat} {v : Value} {l : List α} (h : OwnR c sz t w lo hi v l) (a : Addr) (u : Value) (ha : a.block < lo) : OwnR c sz t (w.setCell a u) lo hi v l := by
  refine ⟨World.ownsRow.kept h.1 (grown_cell w a u) ?_, h.2⟩
  cases hv : v.ownBlock with
  | none => exact .inl rfl
  | some k =>
    right
    intro e
    have := (h.1.lt k hv).1
    have : k = a.block := by simpa using e
    omega
theorem own_cell {w : World} {lo hi : Nat} {v : Value} {l : List ByteArray} (h : Own w lo hi v l) (a : Addr) (u : Value) (ha : a.block < lo) : Own (w.setCell a u) lo hi v l := by
  refine ⟨World.ownsRow.kept h.1 (grown_cell w a u) ?_, h.2⟩
  cases hv : v.ownBlock with
  | none => exact .inl rfl
  | some k =>
    right
    intro e
    have := (h.1.lt k hv).1
    have : k = a.block := by simpa using e
    omega
theorem setCell_size (w : World) (a : Addr) (u : Value) : (w.setCell a u).heap.size = w.heap.size := by
  show (w.heap.modify a.block _).size = _
  rw [Array.size_modify]
theorem box7_set {w : World} {B : Nat} {x0 x1 x2 x3 x4 x5 x6 : Value} {t : TypeId} (h : w.heap[B]? = some (.cells #[x0, x1, x2, x3, x4, x5, x6] t (0, 0))) (u0 u1 u2 u3 u4 u5 u6 : Value) :
    (((((((w.setCell ⟨B, 0, none⟩ u0).setCell ⟨B, 1, none⟩ u1).setCell ⟨B, 2, none⟩ u2).setCell ⟨B, 3, none⟩ u3).setCell ⟨B, 4, none⟩ u4).setCell ⟨B, 5, none⟩ u5).setCell ⟨B, 6, none⟩ u6).heap[B]? = some (.cells #[u0, u1, u2, u3, u4, u5, u6] t (0, 0)) := by
  rw [heap_setCell_same _ B 6 _ _ _ (heap_setCell_same _ B 5 _ _ _ (heap_setCell_same _ B 4 _ _ _ (heap_setCell_same _ B 3 _ _ _ (heap_setCell_same _ B 2 _ _ _ (heap_setCell_same _ B 1 _ _ _ (heap_setCell_same _ B 0 _ _ _ h))))))]; rfl
theorem three_rows (w : World) (A B C : Obj) : (((w.alloc A).alloc B).alloc C).heap[w.heap.size]? = some A ∧ (((w.alloc A).alloc B).alloc C).heap[w.heap.size + 1]? = some B ∧ (((w.alloc A).alloc B).alloc C).heap[w.heap.size + 2]? = some C := by
  refine ⟨?_, heap_mid w A B C, ?_⟩
  · rw [Below.heap_alloc _ _ _ (by simp; omega), Below.heap_alloc _ _ _ (by simp), heap_alloc_new]
  · have := heap_alloc_new ((w.alloc A).alloc B) C
    simpa using this
set_option maxHeartbeats 4000000 in
theorem toEntry_any (e : Ent) (vl vs vf : Value) (w : World) (hr : EnReads w vl vs vf e) (hs : EnSmall e) :
    Calls Tryz.prog 25 #[enV e vl vs vf] w fun x w' => (∃ ul us uf, x = .returned (enV e ul us uf) ∧ EnOwn w' w.heap.size w'.heap.size ul us uf e) ∧ Below w.heap.size w w' := by
  obtain ⟨al, cl, as_, cs, af, cf, rfl, rfl, rfl⟩ := enReads_shape hr
  have hA : ∀ A B C, Below w.heap.size w (((w.alloc A).alloc B).alloc C) := fun A B C => (((Below.refl _ w).alloc (Nat.le_refl _) A).alloc (by simp) B).alloc (by simp; omega) C
  go_enter Tryz.func25, Tryz.ntmps25
  go_wp2_with fail
  obtain ⟨w0, hW⟩ : ∃ W, ((w.alloc (.cells #[.string e.key, .int .i64 e.til, .int .i64 e.kind, .string e.text, .slice al e.list.length cl, .slice as_ e.scores.length cs, .slice af e.fields.length cf] 53)).alloc (.cells #[.string ⟨#[]⟩, .int .i64 0, .int .i64 0, .string ⟨#[]⟩, .slice none 0 0, .slice none 0 0, .slice none 0 0] 43)).alloc (.cells #[.string e.key, .int .i64 e.til, .int .i64 e.kind, .string e.text, .slice none 0 0, .slice none 0 0, .slice none 0 0] 43) = W := ⟨_, rfl⟩
  have hB0 : Below w.heap.size w w0 := by rw [← hW]; exact hA _ _ _
  have hz0 : w0.heap.size = w.heap.size + 3 := by rw [← hW]; simp
  obtain ⟨q0, q1, q2⟩ : w0.heap[w.heap.size]? = some _ ∧ w0.heap[w.heap.size + 1]? = some _ ∧ w0.heap[w.heap.size + 2]? = some _ := by rw [← hW]; exact three_rows _ _ _ _
  rw [hW]
  have Q0 : Hid _ := q0
  have Q1 : Hid _ := q1
  have Q2 : Hid _ := q2
  clear hW hA q0 q1 q2
  refine (to_any _ e.list _ (reads_kept hr.l hB0) hs.list).mono ?_
  rintro x w1 ⟨ul, rfl, ol, hb1⟩
  have hB1 := hB0.trans (hb1.mono hB0.size)
  have ol1 : Own w1 (w.heap.size + 3) w1.heap.size ul e.list := by rw [← hz0]; exact own_of ol
  have hz1 := hb1.size
  rw [hz0] at hz1
  have q0 := (hb1.block w.heap.size (by omega)).trans Q0.out
  have q1 := (hb1.block (w.heap.size + 1) (by omega)).trans Q1.out
  have q2 := (hb1.block (w.heap.size + 2) (by omega)).trans Q2.out
  obtain ⟨bl, dl, rfl⟩ := reads_shape (own_reads ol1)
  have c5 : w1.cell? ⟨w.heap.size, 5, none⟩ = some _ := (box7_row q0).c5
  have d4 : w1.cell? ⟨w.heap.size + 2, 4, none⟩ = some _ := (box7_row q2).c4
  have f4 : w1.frozen? ⟨w.heap.size + 2, 4, none⟩ = false := by simp [World.frozen?, q2]
  have P0 : Hid _ := q0
  have P1 : Hid _ := q1
  have P2 : Hid _ := q2
  clear Q0 Q1 Q2 q0 q1 q2 ol hb1 hB0
  go_wp2_with fail
  obtain ⟨w1s, hW⟩ : ∃ W, w1.setCell ⟨w.heap.size + 1 + 1, 4, none⟩ (.slice bl e.list.length dl) = W := ⟨_, rfl⟩
  have hb1 : Below (w.heap.size + 2) w1 w1s := by rw [← hW]; exact (Below.refl _ w1).setCell (by simp) _
  have hz1s : w1s.heap.size = w1.heap.size := by rw [← hW]; exact setCell_size _ _ _
  have q0 := (hb1.block w.heap.size (by omega)).trans P0.out
  have q1 := (hb1.block (w.heap.size + 1) (by omega)).trans P1.out
  have q2 : w1s.heap[w.heap.size + 2]? = some (.cells #[.string e.key, .int .i64 e.til, .int .i64 e.kind, .string e.text, .slice bl e.list.length dl, .slice none 0 0, .slice none 0 0] 43 (0, 0)) := by
    rw [← hW, show w.heap.size + 2 = w.heap.size + 1 + 1 from rfl, heap_setCell_same _ (w.heap.size + 1 + 1) 4 _ _ _ P2.out]; rfl
  have ol1s : Own w1s (w.heap.size + 3) w1.heap.size (.slice bl e.list.length dl) e.list := by rw [← hW]; exact own_cell ol1 _ _ (by show w.heap.size + 1 + 1 < _; omega)
  have hB1s := hB1.trans (hb1.mono (by omega))
  rw [hW]
  have P0 : Hid _ := q0
  have P1 : Hid _ := q1
  have P2 : Hid _ := q2
  clear hW hb1 q0 q1 q2 c5 d4 f4 ol1 hB1
  refine (toScoreS_any _ e.scores _ (readsR_kept hr.s hB1s) hs.scores).mono ?_
  rintro x w2 ⟨us, rfl, os, hb2⟩
  have hB2 := hB1s.trans (hb2.mono hB1s.size)
  have os2 : ScOwn w2 w1.heap.size w2.heap.size us e.scores := by rw [← hz1s]; exact ownR_of os
  have ol2 := own_kept ol1s hb2
  have hz2 := hb2.size
  rw [hz1s] at hz2
  have q0 := (hb2.block w.heap.size (by omega)).trans P0.out
  have q1 := (hb2.block (w.heap.size + 1) (by omega)).trans P1.out
  have q2 := (hb2.block (w.heap.size + 2) (by omega)).trans P2.out
  obtain ⟨b2, d2, rfl⟩ := readsR_shape (ownR_reads scC_len os2)
  have c6 : w2.cell? ⟨w.heap.size, 6, none⟩ = some _ := (box7_row q0).c6
  have d5 : w2.cell? ⟨w.heap.size + 2, 5, none⟩ = some _ := (box7_row q2).c5
  have f5 : w2.frozen? ⟨w.heap.size + 2, 5, none⟩ = false := by simp [World.frozen?, q2]
  have P0 : Hid _ := q0
  have P1 : Hid _ := q1
  have P2 : Hid _ := q2
  clear q0 q1 q2 os hb2 hB1s ol1s
  go_wp2_with fail
  obtain ⟨w2s, hW⟩ : ∃ W, w2.setCell ⟨w.heap.size + 1 + 1, 5, none⟩ (.slice b2 e.scores.length d2) = W := ⟨_, rfl⟩
  have hb2 : Below (w.heap.size + 2) w2 w2s := by rw [← hW]; exact (Below.refl _ w2).setCell (by simp) _
  have hz2s : w2s.heap.size = w2.heap.size := by rw [← hW]; exact setCell_size _ _ _
  have q0 := (hb2.block w.heap.size (by omega)).trans P0.out
  have q1 := (hb2.block (w.heap.size + 1) (by omega)).trans P1.out
  have q2 : w2s.heap[w.heap.size + 2]? = some (.cells #[.string e.key, .int .i64 e.til, .int .i64 e.kind, .string e.text, .slice bl e.list.length dl, .slice b2 e.scores.length d2, .slice none 0 0] 43 (0, 0)) := by
    rw [← hW, show w.heap.size + 2 = w.heap.size + 1 + 1 from rfl, heap_setCell_same _ (w.heap.size + 1 + 1) 5 _ _ _ P2.out]; rfl
  have ol2s : Own w2s (w.heap.size + 3) w1.heap.size (.slice bl e.list.length dl) e.list := by rw [← hW]; exact own_cell ol2 _ _ (by show w.heap.size + 1 + 1 < _; omega)
  have os2s : ScOwn w2s w1.heap.size w2.heap.size (.slice b2 e.scores.length d2) e.scores := by rw [← hW]; exact ownR_cell os2 _ _ (by show w.heap.size + 1 + 1 < _; omega)
  have hB2s := hB2.trans (hb2.mono (by omega))
  rw [hW]
  have P0 : Hid _ := q0
  have P1 : Hid _ := q1
  have P2 : Hid _ := q2
  clear hW hb2 q0 q1 q2 c6 d5 f5 ol2 os2 hB2
  refine (toPairS_any _ e.fields _ (readsR_kept hr.f hB2s) hs.fields).mono ?_
  rintro x w3 ⟨uf, rfl, of, hb3⟩
  have hB3 := hB2s.trans (hb3.mono hB2s.size)
  have of3 : PrOwn w3 w2.heap.size w3.heap.size uf e.fields := by rw [← hz2s]; exact ownR_of of
  have ol3 := own_kept ol2s hb3
  have os3 := ownR_kept os2s hb3
  have hz3 := hb3.size
  rw [hz2s] at hz3
  have q0 := (hb3.block w.heap.size (by omega)).trans P0.out
  have q1 := (hb3.block (w.heap.size + 1) (by omega)).trans P1.out
  have q2 := (hb3.block (w.heap.size + 2) (by omega)).trans P2.out
  obtain ⟨b3, d3, rfl⟩ := readsR_shape (ownR_reads prC_len of3)
  have d60 := (box7_row q2).c0
  have d61 := (box7_row q2).c1
  have d62 := (box7_row q2).c2
  have d63 := (box7_row q2).c3
  have d64 := (box7_row q2).c4
  have d65 := (box7_row q2).c5
  have d66 : w3.cell? ⟨w.heap.size + 2, 6, none⟩ = some _ := (box7_row q2).c6
  have f6 : w3.frozen? ⟨w.heap.size + 2, 6, none⟩ = false := by simp [World.frozen?, q2]
  have e0 := (box7_row q1).c0
  have e1 := (box7_row q1).c1
  have e2 := (box7_row q1).c2
  have e3 := (box7_row q1).c3
  have e4 := (box7_row q1).c4
  have e5 := (box7_row q1).c5
  have e6 := (box7_row q1).c6
  have g0 : ∀ o, w3.frozen? ⟨w.heap.size + 1, o, none⟩ = false := fun o => by simp [World.frozen?, q1]
  have P1 : Hid _ := q1
  clear q0 q1 q2 of hb3 hB2s ol2s os2s P0 P2
  go_wp2_with fail
  have hP := P1.out
  have w3s : Below (w.heap.size + 1) w3 (w3.setCell ⟨w.heap.size + 1 + 1, 6, none⟩ (.slice b3 e.fields.length d3)) := (Below.refl _ w3).setCell (by show w.heap.size + 1 ≤ w.heap.size + 1 + 1; omega) _
  refine bodyPost_ret (results_cell_row rfl _ _ (w.heap.size + 1) 43 _ (0, 0) _ rfl (box7_set ((Below.heap_setCell w3 _ _ _ (by show w.heap.size + 1 ≠ w.heap.size + 1 + 1; omega)).trans hP) _ _ _ _ _ _ _) Tryz.underlying43 rfl (by kernel_rfl)) rfl ?_
  have hk : ∀ (P : World → Prop), (∀ W a u, a.block < w.heap.size + 3 → w.heap.size ≤ a.block → P W → P (W.setCell a u)) → P w3 → P ((((((((w3.setCell ⟨w.heap.size + 1 + 1, 6, none⟩ (.slice b3 e.fields.length d3)).setCell ⟨w.heap.size + 1, 0, none⟩ (.string e.key)).setCell ⟨w.heap.size + 1, 1, none⟩ (.int .i64 e.til)).setCell ⟨w.heap.size + 1, 2, none⟩ (.int .i64 e.kind)).setCell ⟨w.heap.size + 1, 3, none⟩ (.string e.text)).setCell ⟨w.heap.size + 1, 4, none⟩ (.slice bl e.list.length dl)).setCell ⟨w.heap.size + 1, 5, none⟩ (.slice b2 e.scores.length d2)).setCell ⟨w.heap.size + 1, 6, none⟩ (.slice b3 e.fields.length d3)) := by
    intro P hs h
    exact hs _ _ _ (by show w.heap.size + 1 < _; omega) (by show _ ≤ w.heap.size + 1; omega) (hs _ _ _ (by show w.heap.size + 1 < _; omega) (by show _ ≤ w.heap.size + 1; omega) (hs _ _ _ (by show w.heap.size + 1 < _; omega) (by show _ ≤ w.heap.size + 1; omega) (hs _ _ _ (by show w.heap.size + 1 < _; omega) (by show _ ≤ w.heap.size + 1; omega) (hs _ _ _ (by show w.heap.size + 1 < _; omega) (by show _ ≤ w.heap.size + 1; omega) (hs _ _ _ (by show w.heap.size + 1 < _; omega) (by show _ ≤ w.heap.size + 1; omega) (hs _ _ _ (by show w.heap.size + 1 < _; omega) (by show _ ≤ w.heap.size + 1; omega) (hs _ _ _ (by show w.heap.size + 1 + 1 < _; omega) (by show _ ≤ w.heap.size + 1 + 1; omega) h)))))))
  refine ⟨⟨_, _, _, rfl, w1.heap.size, w2.heap.size, by omega, by omega, ?_, ?_, ?_, ?_⟩, ?_⟩
  · exact hk (fun W => w2.heap.size ≤ W.heap.size) (fun W a u _ _ h => by rw [setCell_size]; exact h) hz3
  · have := hk (fun W => Own W (w.heap.size + 3) w1.heap.size _ e.list) (fun W a u h1 _ h => own_cell h a u h1) ol3
    exact ⟨owns_base this.1 (by omega), this.2⟩
  · exact hk (fun W => ScOwn W w1.heap.size w2.heap.size _ e.scores) (fun W a u h1 _ h => ownR_cell h a u (by omega)) os3
  · have := hk (fun W => PrOwn W w2.heap.size w3.heap.size _ e.fields) (fun W a u h1 _ h => ownR_cell h a u (by omega)) of3
    exact ⟨this.1, fun k hk' => Nat.lt_of_lt_of_le (this.2 k hk') (hk (fun W => w3.heap.size ≤ W.heap.size) (fun W a u _ _ h => by rw [setCell_size]; exact h) (Nat.le_refl _))⟩
  · exact hk (fun W => Below w.heap.size w W) (fun W a u _ h2 h => h.setCell h2 u) hB3
end Go.Proofs.YtaiboncomibikaaGreatDoor
