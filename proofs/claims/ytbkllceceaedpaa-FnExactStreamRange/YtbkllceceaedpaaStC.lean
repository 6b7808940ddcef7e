/- A stream: its last id, items, groups. How much is left of a purse behind it; a copy in new memory; two that are the same. -/
import Derived.Test.YtbkllceceaedpaaItC
import Derived.Test.YtbkllceceaedpaaGpC
namespace Go.Proofs.Ytbkllceceaedpaa
open Go.RowKit
set_option linter.unusedVariables false

/-- a stream's value: its items and groups where they are -/
abbrev stV (t n : Int) (vi vg : Value) : Value := .agg #[.int .i64 t, .int .i64 n, vi, vg]
structure StReads (w : World) (vi vg : Value) (li : List ItRow) (lg : List GpRow) : Prop where
  i : ItsReads w vi li
  g : GpsReads w vg lg
structure StSmall (li : List ItRow) (lg : List GpRow) : Prop where
  i : ItsSmall li
  g : GpsSmall lg
structure StFit (li : List ItRow) (lg : List GpRow) : Prop where
  i : ∀ x ∈ li, ItFit x.e
  il : li.length ≤ maxLen
  g : ∀ x ∈ lg, GpFit x.e
  gl : lg.length ≤ maxLen
theorem stReads_kept {w w' : World} {vi vg : Value} {li : List ItRow} {lg : List GpRow} (h : StReads w vi vg li lg) (hb : Below w.heap.size w w') : StReads w' vi vg li lg := ⟨its_kept h.i hb, gps_kept h.g hb⟩
set_option maxHeartbeats 2000000 in
theorem szStream_any (t n : Int) (vi vg : Value) (li : List ItRow) (lg : List GpRow) (left : Int) (w : World) (hr : StReads w vi vg li lg) (hf : StFit li lg) (hl : 0 ≤ left) (hl2 : left ≤ 1048576) :
    Calls Try.prog 8 #[stV t n vi vg, .int .i64 left] w fun e w' => (∃ m : Int, e = .returned (.int .i64 m) ∧ (m < 0 ∨ 0 ≤ m ∧ m ≤ left ∧ StSmall li lg)) ∧ Below w.heap.size w w' := by
  obtain ⟨ai, ci, rfl⟩ := readsR_shape hr.i.rows
  obtain ⟨ag, cg, rfl⟩ := readsR_shape hr.g.rows
  have hB : Below w.heap.size w (w.alloc (.cells #[.int .i64 t, .int .i64 n, .slice ai li.length ci, .slice ag lg.length cg] 27)) := (Below.refl _ w).alloc (Nat.le_refl _) _
  have Q0 : Hid _ := heap_alloc_new w (.cells #[.int .i64 t, .int .i64 n, .slice ai li.length ci, .slice ag lg.length cg] 27)
  go_enter Try.func8, Try.ntmps8
  go_wp2_with fail
  refine (szItemS_any _ li left _ (its_kept hr.i hB) hf.i hf.il hl hl2).mono ?_
  rintro e w1 ⟨⟨m, rfl, hm⟩, hb1⟩
  have hB1 := hB.trans (hb1.mono hB.size)
  have q1 := (hb1.block w.heap.size (by simp)).trans Q0.out
  have c3 : w1.cell? ⟨w.heap.size, 3, none⟩ = some (.slice ag lg.length cg) := cellAt_row q1 3
  clear hb1 hB q1 Q0
  rcases hm with hm | ⟨hm0, hm1, hms⟩
  · go_wp2_with fail
    go_ret
    exact ⟨⟨_, rfl, .inl (by omega)⟩, hB1⟩
  · have HM : Hid _ := hms
    clear hms
    go_wp2_with fail
    refine (szGroupS_any _ lg m _ (gps_kept hr.g hB1) hf.g hf.gl hm0 (by omega)).mono ?_
    rintro e w2 ⟨⟨m2, rfl, hm2⟩, hb2⟩
    have hB2 := hB1.trans (hb2.mono hB1.size)
    clear hb2 hB1 c3
    rcases hm2 with hm2 | ⟨hm20, hm21, hms2⟩
    · go_wp2_with fail
      go_ret
      exact ⟨⟨_, rfl, .inl (by omega)⟩, hB2⟩
    · have HM2 : Hid _ := hms2
      clear hms2
      go_wp2_with fail
      go_ret
      exact ⟨⟨_, rfl, .inr ⟨hm20, by omega, ⟨HM.out, HM2.out⟩⟩⟩, hB2⟩

/-- a stream's lists, each in a stretch of its own -/
def StFor (w : World) (lo hi : Nat) (vi vg : Value) (li : List ItRow) (lg : List GpRow) : Prop := ∃ m, lo ≤ m ∧ m ≤ hi ∧ ItFor w lo m vi li ∧ GpFor w m hi vg lg
theorem stFor_reads {w : World} {lo hi : Nat} {vi vg : Value} {li : List ItRow} {lg : List GpRow} (h : StFor w lo hi vi vg li lg) : StReads w vi vg li lg := by
  obtain ⟨m, _, _, h3, h4⟩ := h; exact ⟨itFor_reads h3, gpFor_reads h4⟩
theorem stFor_kept {w w' : World} {lo hi : Nat} {vi vg : Value} {li : List ItRow} {lg : List GpRow} (h : StFor w lo hi vi vg li lg) (hb : Below w.heap.size w w') : StFor w' lo hi vi vg li lg := by
  obtain ⟨m, h1, h2, h3, h4⟩ := h; exact ⟨m, h1, h2, itFor_kept h3 hb, gpFor_kept h4 hb⟩
theorem stFor_set {w : World} {lo hi : Nat} {vi vg : Value} {li : List ItRow} {lg : List GpRow} (h : StFor w lo hi vi vg li lg) (a : Addr) (u : Value) (ha : a.block < lo) : StFor (w.setCell a u) lo hi vi vg li lg := by
  obtain ⟨m, h1, h2, h3, h4⟩ := h; exact ⟨m, h1, h2, itFor_set h3 a u ha, gpFor_set h4 a u (by omega)⟩
theorem stFor_lower {w : World} {lo lo' hi hi' : Nat} {vi vg : Value} {li : List ItRow} {lg : List GpRow} (h : StFor w lo hi vi vg li lg) (hl : lo' ≤ lo) (hh : hi ≤ hi') : StFor w lo' hi' vi vg li lg := by
  obtain ⟨m, h1, h2, h3, h4⟩ := h; exact ⟨m, by omega, by omega, itFor_lower h3 hl (Nat.le_refl _), gpFor_lower h4 (Nat.le_refl _) hh⟩
set_option maxHeartbeats 8000000 in
theorem toStream_any (t n : Int) (vi vg : Value) (li : List ItRow) (lg : List GpRow) (w : World) (hr : StReads w vi vg li lg) (hs : StSmall li lg) :
    Calls Try.prog 10 #[stV t n vi vg] w fun e w' => (∃ ui ug yi yg, e = .returned (stV t n ui ug) ∧ yi.map ItRow.e = li.map ItRow.e ∧ yg.map GpRow.e = lg.map GpRow.e ∧ StFor w' w.heap.size w'.heap.size ui ug yi yg) ∧ Below w.heap.size w w' := by
  obtain ⟨ai, ci, rfl⟩ := readsR_shape hr.i.rows
  obtain ⟨ag, cg, rfl⟩ := readsR_shape hr.g.rows
  obtain ⟨w0, hW⟩ : ∃ W, ((w.alloc (.cells #[.int .i64 t, .int .i64 n, .slice ai li.length ci, .slice ag lg.length cg] 27)).alloc (.cells #[.int .i64 0, .int .i64 0, .slice none 0 0, .slice none 0 0] 34)).alloc (.cells #[.int .i64 0, .int .i64 0, .slice none 0 0, .slice none 0 0] 34) = W := ⟨_, rfl⟩
  have hB0 : Below w.heap.size w w0 := by rw [← hW]; exact (((Below.refl _ w).alloc (Nat.le_refl _) _).alloc (by simp) _).alloc (by simp; omega) _
  have hz0 : w.heap.size + 3 ≤ w0.heap.size := by rw [← hW]; simp
  obtain ⟨q0, q1, q2⟩ : w0.heap[w.heap.size]? = some _ ∧ w0.heap[w.heap.size + 1]? = some _ ∧ w0.heap[w.heap.size + 2]? = some _ := by rw [← hW]; exact rows3 _ _ _ _
  have Q0 : Hid _ := q0
  have Q1 : Hid _ := q1
  have Q2 : Hid _ := q2
  have b0 : w0.cell? ⟨w.heap.size, 0, none⟩ = some (.int .i64 t) := cellAt_row q0 0
  have b1 : w0.cell? ⟨w.heap.size, 1, none⟩ = some (.int .i64 n) := cellAt_row q0 1
  clear q0 q1 q2
  go_enter Try.func10, Try.ntmps10
  go_wp2_with fail
  clear hW b0 b1
  refine (toId_ab t n _).mono ?_
  rintro e w1 ⟨rfl, hb1⟩
  have hB1 := hB0.trans (hb1.mono hB0.size)
  have q0 := (hb1.block w.heap.size (by omega)).trans Q0.out
  have q1 := (hb1.block (w.heap.size + 1) (by omega)).trans Q1.out
  have q2 := (hb1.block (w.heap.size + 2) (by omega)).trans Q2.out
  have hz1 := hb1.size
  have c2 : w1.cell? ⟨w.heap.size, 2, none⟩ = some (.slice ai li.length ci) := cellAt_row q0 2
  have d0 : w1.cell? ⟨w.heap.size + 2, 0, none⟩ = some (.int .i64 0) := cellAt_row q2 0
  have d1 : w1.cell? ⟨w.heap.size + 2, 1, none⟩ = some (.int .i64 0) := cellAt_row q2 1
  have f2 : ∀ o, w1.frozen? ⟨w.heap.size + 2, o, none⟩ = false := frozenAt_row q2
  have P0 : Hid _ := q0
  have P1 : Hid _ := q1
  have P2 : Hid _ := q2
  clear Q0 Q1 Q2 q0 q1 q2 hb1 hB0
  go_wp2_with fail
  obtain ⟨w1s, hW⟩ : ∃ W, (w1.setCell ⟨w.heap.size + 1 + 1, 0, none⟩ (.int .i64 t)).setCell ⟨w.heap.size + 1 + 1, 1, none⟩ (.int .i64 n) = W := ⟨_, rfl⟩
  have hb1 : Below (w.heap.size + 2) w1 w1s := by rw [← hW]; exact ((Below.refl _ w1).setCell (by simp) _).setCell (by simp) _
  have hz1s : w1.heap.size ≤ w1s.heap.size := by rw [← hW, set_size, set_size]; exact Nat.le_refl _
  have q0 := (hb1.block w.heap.size (by omega)).trans P0.out
  have q1 := (hb1.block (w.heap.size + 1) (by omega)).trans P1.out
  have q2 : w1s.heap[w.heap.size + 2]? = some (.cells #[.int .i64 t, .int .i64 n, .slice none 0 0, .slice none 0 0] 34 (0, 0)) := by
    rw [← hW, show w.heap.size + 2 = w.heap.size + 1 + 1 from rfl, heap_setCell_same _ (w.heap.size + 1 + 1) 1 _ _ _ (heap_setCell_same _ (w.heap.size + 1 + 1) 0 _ _ _ P2.out)]; rfl
  have hB1s := hB1.trans (hb1.mono (by omega))
  rw [hW]
  have P0 : Hid _ := q0
  have P1 : Hid _ := q1
  have P2 : Hid _ := q2
  clear hW hb1 q0 q1 q2 c2 d0 d1 f2 hB1
  refine (toItemS_any _ li _ (its_kept hr.i hB1s) hs.i).mono ?_
  rintro e w2 ⟨⟨ui, yi, rfl, hmi, oi⟩, hb2⟩
  have hB2 := hB1s.trans (hb2.mono hB1s.size)
  have hz2 := hb2.size
  have q0 := (hb2.block w.heap.size (by omega)).trans P0.out
  have q1 := (hb2.block (w.heap.size + 1) (by omega)).trans P1.out
  have q2 := (hb2.block (w.heap.size + 2) (by omega)).trans P2.out
  obtain ⟨bi, di, rfl⟩ := readsR_shape (itFor_reads oi).rows
  have OI : Hid _ := oi
  have HMI : Hid _ := hmi
  have c3 : w2.cell? ⟨w.heap.size, 3, none⟩ = some (.slice ag lg.length cg) := cellAt_row q0 3
  have d2 : w2.cell? ⟨w.heap.size + 2, 2, none⟩ = some (.slice none 0 0) := cellAt_row q2 2
  have f2 : ∀ o, w2.frozen? ⟨w.heap.size + 2, o, none⟩ = false := frozenAt_row q2
  have P1 : Hid _ := q1
  have P2 : Hid _ := q2
  clear P0 q0 q1 q2 hb2 hB1s oi hmi
  go_wp2_with fail
  obtain ⟨w2s, hW⟩ : ∃ W, w2.setCell ⟨w.heap.size + 1 + 1, 2, none⟩ (.slice bi yi.length di) = W := ⟨_, rfl⟩
  have hb2 : Below (w.heap.size + 2) w2 w2s := by rw [← hW]; exact (Below.refl _ w2).setCell (by simp) _
  have hz2s : w2s.heap.size = w2.heap.size := by rw [← hW, set_size]
  have q1 := (hb2.block (w.heap.size + 1) (by omega)).trans P1.out
  have q2 : w2s.heap[w.heap.size + 2]? = some (.cells #[.int .i64 t, .int .i64 n, .slice bi yi.length di, .slice none 0 0] 34 (0, 0)) := by
    rw [← hW, show w.heap.size + 2 = w.heap.size + 1 + 1 from rfl, heap_setCell_same _ (w.heap.size + 1 + 1) 2 _ _ _ P2.out]; rfl
  have OI2 : Hid (ItFor w2s w1s.heap.size w2.heap.size (.slice bi yi.length di) yi) := by
    show ItFor _ _ _ _ _
    rw [← hW]; exact itFor_set OI.out ⟨w.heap.size + 1 + 1, 2, none⟩ _ (by show w.heap.size + 1 + 1 < _; omega)
  have hB2s := hB2.trans (hb2.mono (by omega))
  rw [hW]
  have P1 : Hid _ := q1
  have P2 : Hid _ := q2
  have HZ2 : Hid (w2s.heap.size = w2.heap.size) := hz2s
  have hz2s' : w2.heap.size ≤ w2s.heap.size := by omega
  clear hW hb2 q1 q2 c3 d2 f2 hB2 OI hz2s
  refine (toGroupS_any _ lg _ (gps_kept hr.g hB2s) hs.g).mono ?_
  rintro e w3 ⟨⟨ug, yg, rfl, hmg, og⟩, hb3⟩
  have hB3 := hB2s.trans (hb3.mono hB2s.size)
  have hz3 := hb3.size
  have q1 := (hb3.block (w.heap.size + 1) (by omega)).trans P1.out
  have q2 := (hb3.block (w.heap.size + 2) (by omega)).trans P2.out
  obtain ⟨bg, dg, rfl⟩ := readsR_shape (gpFor_reads og).rows
  have OI3 : Hid (ItFor w3 w1s.heap.size w2.heap.size (.slice bi yi.length di) yi) := itFor_kept OI2.out hb3
  have OG : Hid (GpFor w3 w2.heap.size w3.heap.size (.slice bg yg.length dg) yg) := by show GpFor _ _ _ _ _; rw [← HZ2.out]; exact og
  have HMG : Hid _ := hmg
  have d0 : w3.cell? ⟨w.heap.size + 2, 0, none⟩ = some (.int .i64 t) := cellAt_row q2 0
  have d1 : w3.cell? ⟨w.heap.size + 2, 1, none⟩ = some (.int .i64 n) := cellAt_row q2 1
  have d2 : w3.cell? ⟨w.heap.size + 2, 2, none⟩ = some (.slice bi yi.length di) := cellAt_row q2 2
  have d3 : w3.cell? ⟨w.heap.size + 2, 3, none⟩ = some (.slice none 0 0) := cellAt_row q2 3
  have e0 : w3.cell? ⟨w.heap.size + 1, 0, none⟩ = some (.int .i64 0) := cellAt_row q1 0
  have e1 : w3.cell? ⟨w.heap.size + 1, 1, none⟩ = some (.int .i64 0) := cellAt_row q1 1
  have e2 : w3.cell? ⟨w.heap.size + 1, 2, none⟩ = some (.slice none 0 0) := cellAt_row q1 2
  have e3 : w3.cell? ⟨w.heap.size + 1, 3, none⟩ = some (.slice none 0 0) := cellAt_row q1 3
  have f1 : ∀ o, w3.frozen? ⟨w.heap.size + 1, o, none⟩ = false := frozenAt_row q1
  have f2 : ∀ o, w3.frozen? ⟨w.heap.size + 2, o, none⟩ = false := frozenAt_row q2
  have P1 : Hid _ := q1
  clear P2 q1 q2 hb3 hB2s og hmg OI2 HZ2
  go_wp2_with fail
  have hb4 : Below (w.heap.size + 1 + 1) w3 (w3.setCell ⟨w.heap.size + 1 + 1, 3, none⟩ (.slice bg yg.length dg)) := (Below.refl (w.heap.size + 1 + 1) w3).setCell (by simp) _
  refine bodyPost_ret (results_cell_row rfl _ _ (w.heap.size + 1) 34 _ (0, 0) _ rfl (put4_row ((hb4.block (w.heap.size + 1) (by omega)).trans P1.out) _ _ _ _) Try.underlying34 rfl (by kernel_rfl)) rfl ?_
  have hk : ∀ (P : World → Prop), (∀ W a u, a.block < w.heap.size + 3 → P W → P (W.setCell a u)) → P w3 → P (((((w3.setCell ⟨w.heap.size + 1 + 1, 3, none⟩ (.slice bg yg.length dg)).setCell ⟨w.heap.size + 1, 0, none⟩ (.int .i64 t)).setCell ⟨w.heap.size + 1, 1, none⟩ (.int .i64 n)).setCell ⟨w.heap.size + 1, 2, none⟩ (.slice bi yi.length di)).setCell ⟨w.heap.size + 1, 3, none⟩ (.slice bg yg.length dg)) := by
    intro P hs h
    exact hs _ _ _ (by show w.heap.size + 1 < _; omega) (hs _ _ _ (by show w.heap.size + 1 < _; omega) (hs _ _ _ (by show w.heap.size + 1 < _; omega) (hs _ _ _ (by show w.heap.size + 1 < _; omega) (hs _ _ _ (by show w.heap.size + 1 + 1 < _; omega) h))))
  refine ⟨⟨_, _, yi, yg, rfl, HMI.out, HMG.out, w2.heap.size, by omega, ?_, ?_, ?_⟩, put4_below (hB3.trans (hb4.mono (by omega))) (Nat.le_succ _) _ _ _ _⟩
  · exact hk (fun W => w2.heap.size ≤ W.heap.size) (fun W a u _ h => by rw [set_size]; exact h) (by omega)
  · exact itFor_lower (hk (fun W => ItFor W w1s.heap.size w2.heap.size _ yi) (fun W a u h1 h => itFor_set h a u (by omega)) OI3.out) (by omega) (Nat.le_refl _)
  · exact gpFor_lower (hk (fun W => GpFor W w2.heap.size w3.heap.size _ yg) (fun W a u h1 h => gpFor_set h a u (by omega)) OG.out) (Nat.le_refl _) (hk (fun W => w3.heap.size ≤ W.heap.size) (fun W a u _ h => by rw [set_size]; exact h) (Nat.le_refl _))

set_option maxHeartbeats 2000000 in
theorem eqStream_true (t n : Int) (vi vg ui ug : Value) (li mi : List ItRow) (lg mg : List GpRow) (w : World) (hr : StReads w vi vg li lg) (hq : StReads w ui ug mi mg) (hs : StSmall li lg) (hei : li.map ItRow.e = mi.map ItRow.e) (heg : lg.map GpRow.e = mg.map GpRow.e) :
    Calls Try.prog 12 #[stV t n vi vg, stV t n ui ug] w fun e w' => e = .returned (.bool true) ∧ Below w.heap.size w w' := by
  obtain ⟨ai, ci, rfl⟩ := readsR_shape hr.i.rows
  obtain ⟨ag, cg, rfl⟩ := readsR_shape hr.g.rows
  obtain ⟨bi, di, rfl⟩ := readsR_shape hq.i.rows
  obtain ⟨bg, dg, rfl⟩ := readsR_shape hq.g.rows
  have HEI : Hid _ := hei
  have HEG : Hid _ := heg
  clear hei heg
  obtain ⟨w0, hW⟩ : ∃ W, (w.alloc (.cells #[.int .i64 t, .int .i64 n, .slice ai li.length ci, .slice ag lg.length cg] 34)).alloc (.cells #[.int .i64 t, .int .i64 n, .slice bi mi.length di, .slice bg mg.length dg] 34) = W := ⟨_, rfl⟩
  have hB0 : Below w.heap.size w w0 := by rw [← hW]; exact ((Below.refl _ w).alloc (Nat.le_refl _) _).alloc (by simp) _
  have hz0 : w.heap.size + 2 ≤ w0.heap.size := by rw [← hW]; simp
  have q0 : w0.heap[w.heap.size]? = some (.cells #[.int .i64 t, .int .i64 n, .slice ai li.length ci, .slice ag lg.length cg] 34 (0, 0)) := by rw [← hW, Below.heap_alloc _ _ _ (by simp)]; exact heap_alloc_new w _
  have q1 : w0.heap[w.heap.size + 1]? = some (.cells #[.int .i64 t, .int .i64 n, .slice bi mi.length di, .slice bg mg.length dg] 34 (0, 0)) := by
    rw [← hW]
    have := heap_alloc_new (w.alloc (.cells #[.int .i64 t, .int .i64 n, .slice ai li.length ci, .slice ag lg.length cg] 34)) (.cells #[.int .i64 t, .int .i64 n, .slice bi mi.length di, .slice bg mg.length dg] 34)
    rw [World.size_alloc] at this; exact this
  have Q0 : Hid _ := q0
  have Q1 : Hid _ := q1
  have b0 : w0.cell? ⟨w.heap.size, 0, none⟩ = some (.int .i64 t) := cellAt_row q0 0
  have b1 : w0.cell? ⟨w.heap.size, 1, none⟩ = some (.int .i64 n) := cellAt_row q0 1
  have b2 : w0.cell? ⟨w.heap.size + 1, 0, none⟩ = some (.int .i64 t) := cellAt_row q1 0
  have b3 : w0.cell? ⟨w.heap.size + 1, 1, none⟩ = some (.int .i64 n) := cellAt_row q1 1
  clear q0 q1
  go_enter Try.func12, Try.ntmps12
  go_wp2_with fail
  clear hW b0 b1 b2 b3
  refine (eqId_ab t n _).mono ?_
  rintro e w1 ⟨rfl, hb1⟩
  have hB1 := hB0.trans (hb1.mono hB0.size)
  have q0 := (hb1.block w.heap.size (by omega)).trans Q0.out
  have q1 := (hb1.block (w.heap.size + 1) (by omega)).trans Q1.out
  have c2 : w1.cell? ⟨w.heap.size, 2, none⟩ = some (.slice ai li.length ci) := cellAt_row q0 2
  have d2 : w1.cell? ⟨w.heap.size + 1, 2, none⟩ = some (.slice bi mi.length di) := cellAt_row q1 2
  have P0 : Hid _ := q0
  have P1 : Hid _ := q1
  have hz1 := hb1.size
  clear Q0 Q1 q0 q1 hb1 hB0
  go_wp2_with fail
  refine (eqItemS_true _ _ li mi _ (its_kept hr.i hB1) (its_kept hq.i hB1) hs.i HEI.out).mono ?_
  rintro e w2 ⟨rfl, hb2⟩
  have hB2 := hB1.trans (hb2.mono hB1.size)
  have q0 := (hb2.block w.heap.size (by omega)).trans P0.out
  have q1 := (hb2.block (w.heap.size + 1) (by omega)).trans P1.out
  have c3 : w2.cell? ⟨w.heap.size, 3, none⟩ = some (.slice ag lg.length cg) := cellAt_row q0 3
  have d3 : w2.cell? ⟨w.heap.size + 1, 3, none⟩ = some (.slice bg mg.length dg) := cellAt_row q1 3
  clear P0 P1 q0 q1 hb2 hB1 c2 d2
  go_wp2_with fail
  refine (eqGroupS_true _ _ lg mg _ (gps_kept hr.g hB2) (gps_kept hq.g hB2) hs.g HEG.out).mono ?_
  rintro e w3 ⟨rfl, hb3⟩
  have hB3 := hB2.trans (hb3.mono hB2.size)
  clear hb3 hB2 c3 d3
  go_wp2_with fail
  go_ret
  exact ⟨rfl, hB3⟩
end Go.Proofs.Ytbkllceceaedpaa
