/- Several texts in one: GrD GrE GrF. -/
import Derived.Test.YtnaklhompdcgeaaGrW1
import Derived.Test.YtnaklhompdcgeaaEnR
/- The model's l4Copy: a base whose rows grow by append. -/
namespace Go.Proofs.Ytnaklhompdcgeaa
open Go.RowKit
set_option linter.unusedVariables false

set_option maxHeartbeats 8000000 in
set_option maxRecDepth 100000 in
theorem l4Copy_any (n : Int) (v : Value) (l : List Row) (w : World) (hr : EsReads w v l) (hs : EsSmall l) :
    Calls Try.prog 14 #[bsV n v] w fun x w' => (∃ u ys, x = .returned (bsV n u) ∧ ys.map Row.e = l.map Row.e ∧ Gr w' w.heap.size u ys) ∧ Below w.heap.size w w' := by
  obtain ⟨ao, cap, rfl⟩ := readsR_shape hr.rows
  have hlen := hs.len
  obtain ⟨i0, hi0, hz0, hz1, hz2⟩ := info_parts enInfo
  go_enter Try.func14, Try.ntmps14
  go_wp2_with fail
  obtain ⟨w0, hW⟩ : ∃ W, ((w.alloc (.cells #[.int .i64 n, .slice ao l.length cap] 28)).alloc (.cells #[.int .i64 0, .slice none 0 0] 28)).alloc (.cells #[.int .i64 n, .slice none 0 0] 28) = W := ⟨_, rfl⟩
  have hB0 : Below w.heap.size w w0 := by rw [← hW]; exact (((Below.refl _ w).alloc (Nat.le_refl _) _).alloc (by simp) _).alloc (by simp; omega) _
  have hzz : w0.heap.size = w.heap.size + 3 := by rw [← hW]; simp
  have qp : w0.heap[w.heap.size]? = some (.cells #[.int .i64 n, .slice ao l.length cap] 28 (0, 0)) := (by rw [← hW]; exact (((Below.refl (w.heap.size + 1) _).alloc (by simp) _).alloc (by simp) _).block _ (by omega) : w0.heap[w.heap.size]? = (w.alloc (.cells #[.int .i64 n, .slice ao l.length cap] 28)).heap[w.heap.size]?).trans (heap_alloc_new _ _)
  have QP : Hid _ := qp
  have q1 : w0.heap[w.heap.size + 1]? = some (.cells #[.int .i64 0, .slice none 0 0] 28 (0, 0)) := by rw [← hW]; exact heap_mid _ _ _ _
  have q2 : w0.heap[w.heap.size + 1 + 1]? = some (.cells #[.int .i64 n, .slice none 0 0] 28 (0, 0)) := by
    rw [← hW]
    have := heap_alloc_new ((w.alloc (.cells #[.int .i64 n, .slice ao l.length cap] 28)).alloc (.cells #[.int .i64 0, .slice none 0 0] 28)) (.cells #[.int .i64 n, .slice none 0 0] 28)
    rw [World.size_alloc, World.size_alloc] at this
    exact this
  rw [hW]
  have G0 : Gr w0 (w.heap.size + 3) (.slice none 0 0) [] := gr_nil (by omega)
  have Q1 : Hid _ := q1
  have Q2 : Hid _ := q2
  clear hW q1 q2 qp
  go_loopw [4] (fun i wr => ∃ (j : Nat) (u : Value) (ys : List Row), j ≤ l.length ∧ i = .int .i64 j ∧ Hid (ys.map Row.e = (l.take j).map Row.e) ∧ Hid (wr.heap[w.heap.size + 1 + 1]? = some (.cells #[.int .i64 n, u] 28 (0, 0))) ∧ Hid (wr.heap[w.heap.size + 1]? = some (.cells #[.int .i64 0, .slice none 0 0] 28 (0, 0))) ∧ Hid (wr.heap[w.heap.size]? = some (.cells #[.int .i64 n, .slice ao l.length cap] 28 (0, 0))) ∧ Gr wr (w.heap.size + 3) u ys ∧ Below w.heap.size w wr) (fun i _ => l.length - (intOf i).toNat)
  case atStart => exact ⟨0, _, [], Nat.zero_le _, rfl, rfl, Q2, Q1, QP, G0, hB0⟩
  case round =>
    clear G0 Q1 Q2 QP hB0 hzz
    obtain ⟨j, u, ys, hj, rfl, HY, Q2, Q1, P0, hG, hB⟩ := hrel
    by_cases hlt : j < l.length
    · obtain ⟨b, off, rfl, hb, hnc, hcm, hc⟩ := es_some hr.rows (by omega)
      obtain ⟨c0, c1, c2, c3, c4, c5, c6⟩ := es_cells hc hB hb hlt
      have hk1 : (j : Int) < (l.length : Int) := by omega
      have hin := rowIn_kept (hr.ins _ (esAt_mem hlt)) hB
      have hsm := hs.each _ (esAt_mem hlt)
      have hys : ys.length = j := by
        have := congrArg List.length HY.out
        rw [List.length_map, List.length_map, List.length_take] at this; omega
      have hBz := hB.size
      have PB : Hid _ := P0.out
      have p0 : wr.cell? ⟨w.heap.size, 1, none⟩ = some (.slice (some ⟨b, off, none⟩) l.length cap) := by rw [cell_of_row _ _ _ _ _ _ P0.out]; rfl
      clear hc hnc hcm
      go_wp2_with fail
      have hO : w.heap.size + 1 + 1 < wr.heap.size := (Array.getElem?_eq_some_iff.1 Q2.out).1
      have hb1 : Below wr.heap.size wr wr.drew := (Below.refl _ wr).drew
      have hsz1 : wr.heap.size = wr.drew.heap.size := by simp
      have hcc := And.intro p0 (And.intro c0 (And.intro c1 (And.intro c2 (And.intro c3 (And.intro c4 (And.intro c5 c6))))))
      have HS : Hid (∀ w' : World, Below (w.heap.size + 1) wr.drew w' → (w'.cell? ⟨w.heap.size, 1, none⟩ = some (.slice (some ⟨b, off, none⟩) l.length cap) ∧ w'.cell? ⟨b, off + j * 7, none⟩ = some (.string (esAt l j).e.key) ∧ w'.cell? ⟨b, off + j * 7 + 1, none⟩ = some (.int .i64 (esAt l j).e.til) ∧ w'.cell? ⟨b, off + j * 7 + 2, none⟩ = some (.int .i64 (esAt l j).e.kind) ∧ w'.cell? ⟨b, off + j * 7 + 3, none⟩ = some (.string (esAt l j).e.text) ∧ w'.cell? ⟨b, off + j * 7 + 4, none⟩ = some (.slice (esAt l j).al (esAt l j).e.list.length (esAt l j).cl) ∧ w'.cell? ⟨b, off + j * 7 + 5, none⟩ = some (.slice (esAt l j).as_ (esAt l j).e.scores.length (esAt l j).cs) ∧ w'.cell? ⟨b, off + j * 7 + 6, none⟩ = some (.slice (esAt l j).af (esAt l j).e.fields.length (esAt l j).cf))) := fun w' h => ⟨(h.cell (p := ⟨w.heap.size, 1, none⟩) (by show w.heap.size < w.heap.size + 1; omega)).trans p0, (h.cell (p := ⟨b, off + j * 7, none⟩) (by show b < w.heap.size + 1; omega)).trans c0, (h.cell (p := ⟨b, off + j * 7 + 1, none⟩) (by show b < w.heap.size + 1; omega)).trans c1, (h.cell (p := ⟨b, off + j * 7 + 2, none⟩) (by show b < w.heap.size + 1; omega)).trans c2, (h.cell (p := ⟨b, off + j * 7 + 3, none⟩) (by show b < w.heap.size + 1; omega)).trans c3, (h.cell (p := ⟨b, off + j * 7 + 4, none⟩) (by show b < w.heap.size + 1; omega)).trans c4, (h.cell (p := ⟨b, off + j * 7 + 5, none⟩) (by show b < w.heap.size + 1; omega)).trans c5, (h.cell (p := ⟨b, off + j * 7 + 6, none⟩) (by show b < w.heap.size + 1; omega)).trans c6⟩
      have hin1 := rowIn_kept hin hb1
      have hG1 := gr_kept hG hb1
      have qO : wr.drew.heap[w.heap.size + 1 + 1]? = _ := Q2.out
      have qR : wr.drew.heap[w.heap.size + 1]? = _ := Q1.out
      have q0 : wr.drew.heap[w.heap.size]? = _ := P0.out
      have hB1 := hB.trans (hb1.mono hBz)
      have hzO : w.heap.size + 1 + 1 < wr.drew.heap.size := by rw [← hsz1]; exact hO
      have HB1 : Hid _ := hB1
      have QO : Hid _ := qO
      have QR : Hid _ := qR
      have Q0 : Hid _ := q0
      have HI : Hid _ := hin1
      have HG1 : Hid _ := hG1
      have o1 : wr.drew.cell? ⟨w.heap.size + 1 + 1, 1, none⟩ = some u := by rw [cell_of_row _ _ _ _ _ _ qO]; rfl
      clear hb1 hin1 hG1 qO qR q0 hB1 hin hG hB Q1 Q2 c0 c1 c2 c3 c4 c5 c6 hr p0 hcc PB P0 hsz1
      refine wp_region_held_drew (S := (fun w' => (w'.cell? ⟨w.heap.size, 1, none⟩ = some (.slice (some ⟨b, off, none⟩) l.length cap) ∧ w'.cell? ⟨b, off + j * 7, none⟩ = some (.string (esAt l j).e.key) ∧ w'.cell? ⟨b, off + j * 7 + 1, none⟩ = some (.int .i64 (esAt l j).e.til) ∧ w'.cell? ⟨b, off + j * 7 + 2, none⟩ = some (.int .i64 (esAt l j).e.kind) ∧ w'.cell? ⟨b, off + j * 7 + 3, none⟩ = some (.string (esAt l j).e.text) ∧ w'.cell? ⟨b, off + j * 7 + 4, none⟩ = some (.slice (esAt l j).al (esAt l j).e.list.length (esAt l j).cl) ∧ w'.cell? ⟨b, off + j * 7 + 5, none⟩ = some (.slice (esAt l j).as_ (esAt l j).e.scores.length (esAt l j).cs) ∧ w'.cell? ⟨b, off + j * 7 + 6, none⟩ = some (.slice (esAt l j).af (esAt l j).e.fields.length (esAt l j).cf)))) (by kernel_rfl) (by exact HS.out _ (Below.refl _ _)) (fun hHeld => ?_)
      generalize wr.drew = W1 at *
      refine takeH (i := 0) (d := (some 15)) (v := ?_) rfl rfl (by kernel_rfl) (by kernel_rfl) (by kernel_rfl) (fun _ _ _ h => h) (by kernel_rfl) ?_ (by assumption) ?_
      rotate_left
      · (intro w hSw; (try dsimp only at hSw); go_simp; try with_reducible rfl)
      try simp only [Act.put, List.setIfInBounds_toArray, List.set_cons_succ, List.set_cons_zero]
      refine takeH (i := 2) (d := (some 17)) (v := ?_) rfl rfl (by kernel_rfl) (by kernel_rfl) (by kernel_rfl) (fun _ _ _ h => h) (by kernel_rfl) ?_ (by assumption) ?_
      rotate_left
      · (intro w hSw; (try dsimp only at hSw); go_simp; try with_reducible rfl)
      try simp only [Act.put, List.setIfInBounds_toArray, List.set_cons_succ, List.set_cons_zero]
      refine takeH (i := 3) (d := (some 18)) (v := ?_) rfl rfl (by kernel_rfl) (by kernel_rfl) (by kernel_rfl) (fun _ _ _ h => h) (by kernel_rfl) ?_ (by assumption) ?_
      rotate_left
      · (intro w hSw; (try dsimp only at hSw); go_simp; try with_reducible rfl)
      try simp only [Act.put, List.setIfInBounds_toArray, List.set_cons_succ, List.set_cons_zero]
      refine takeH (i := 4) (d := (some 19)) (v := ?_) rfl rfl (by kernel_rfl) (by kernel_rfl) (by kernel_rfl) (fun _ _ _ h => h) (by kernel_rfl) ?_ (by assumption) ?_
      rotate_left
      · (intro w hSw; (try dsimp only at hSw); go_simp; try with_reducible rfl)
      try simp only [Act.put, List.setIfInBounds_toArray, List.set_cons_succ, List.set_cons_zero]
      refine takeH (i := 5) (d := (some 20)) (v := ?_) rfl rfl (by kernel_rfl) (by kernel_rfl) (by kernel_rfl) (fun _ _ _ h => h) (by kernel_rfl) ?_ (by assumption) ?_
      rotate_left
      · (intro w hSw; (try dsimp only at hSw); go_simp; try with_reducible rfl)
      try simp only [Act.put, List.setIfInBounds_toArray, List.set_cons_succ, List.set_cons_zero]
      refine takeH (i := 6) (d := (some 21)) (v := ?_) rfl rfl (by kernel_rfl) (by kernel_rfl) (by kernel_rfl) (fun _ _ _ h => h) (by kernel_rfl) ?_ (by assumption) ?_
      rotate_left
      · (intro w hSw; (try dsimp only at hSw); go_simp; try with_reducible rfl)
      try simp only [Act.put, List.setIfInBounds_toArray, List.set_cons_succ, List.set_cons_zero]
      refine wpAnyH_ready (rs := [1, 7]) (by kernel_rfl) (by simp) ?_
      refine AllReadyH.cons rfl (fun K hK => ?_) (AllReadyH.cons rfl (fun K hK => ?_) AllReadyH.nil)
      · go_simp
        refine hK.out _ _ ?_ (fun hHeld => ?_)
        · exact HS.out _ (Below.refl _ _)
        clear hK K
        (try simp only [Act.put]); (try simp only [List.setIfInBounds_toArray]); (try simp only [List.set_cons_succ]); (try simp only [List.set_cons_zero])
        refine wpAnyH_ready (rs := [7]) (by kernel_rfl) (by simp) ?_
        refine AllReadyH.cons rfl (fun K hK => ?_) AllReadyH.nil
        go_simp
        refine (l4Entry_any (esAt l j).e _ _ _ _ HI.out hsm).mono ?_; rintro x w2 ⟨⟨ul, us, uf, rfl, hox⟩, hb2⟩
        refine hK.out _ _ ?_ (fun hHeld => ?_)
        · exact HS.out _ (hb2.mono (by omega))
        clear hK K
        try simp only [Act.put, List.setIfInBounds_toArray, List.set_cons_succ, List.set_cons_zero]
        obtain ⟨al, cl, as_, cs, af, cf, rfl, rfl, rfl⟩ := enReads_shape (enOwn_reads hox)
        have hz2 := hb2.size
        have hbl : Below w2.heap.size w2 (w2.alloc (.cells #[.string (esAt l j).e.key, .int .i64 (esAt l j).e.til, .int .i64 (esAt l j).e.kind, .string (esAt l j).e.text, .slice al (esAt l j).e.list.length cl, .slice as_ (esAt l j).e.scores.length cs, .slice af (esAt l j).e.fields.length cf] 43)) := (Below.refl _ w2).alloc (Nat.le_refl _) _
        have QO3 : Hid ((w2.alloc (.cells #[.string (esAt l j).e.key, .int .i64 (esAt l j).e.til, .int .i64 (esAt l j).e.kind, .string (esAt l j).e.text, .slice al (esAt l j).e.list.length cl, .slice as_ (esAt l j).e.scores.length cs, .slice af (esAt l j).e.fields.length cf] 43)).heap[w.heap.size + 1 + 1]? = _) := (hbl.block _ (by omega)).trans ((hb2.block _ (by omega)).trans QO.out)
        have QR3 : Hid ((w2.alloc (.cells #[.string (esAt l j).e.key, .int .i64 (esAt l j).e.til, .int .i64 (esAt l j).e.kind, .string (esAt l j).e.text, .slice al (esAt l j).e.list.length cl, .slice as_ (esAt l j).e.scores.length cs, .slice af (esAt l j).e.fields.length cf] 43)).heap[w.heap.size + 1]? = _) := (hbl.block _ (by omega)).trans ((hb2.block _ (by omega)).trans QR.out)
        have HU3 : Hid _ := ownsR_kept (ownsR_kept HG1.out.rows hb2) hbl
        have HE3 : Hid _ := ensOwn_kept (ensOwn_kept HG1.out.ins hb2) hbl
        have HX3 : Hid _ := enOwn_kept hox hbl
        have hbb := (hb2.trans (hbl.mono hz2))
        have HB3 : Hid (Below w.heap.size w (w2.alloc (.cells #[.string (esAt l j).e.key, .int .i64 (esAt l j).e.til, .int .i64 (esAt l j).e.kind, .string (esAt l j).e.text, .slice al (esAt l j).e.list.length cl, .slice as_ (esAt l j).e.scores.length cs, .slice af (esAt l j).e.fields.length cf] 43))) := HB1.out.trans (hbb.mono HB1.out.size)
        have HC3 : Hid (Below (w.heap.size + 1) W1 (w2.alloc (.cells #[.string (esAt l j).e.key, .int .i64 (esAt l j).e.til, .int .i64 (esAt l j).e.kind, .string (esAt l j).e.text, .slice al (esAt l j).e.list.length cl, .slice as_ (esAt l j).e.scores.length cs, .slice af (esAt l j).e.fields.length cf] 43))) := hbb.mono (by omega)
        have hz3 : (w2.alloc (.cells #[.string (esAt l j).e.key, .int .i64 (esAt l j).e.til, .int .i64 (esAt l j).e.kind, .string (esAt l j).e.text, .slice al (esAt l j).e.list.length cl, .slice as_ (esAt l j).e.scores.length cs, .slice af (esAt l j).e.fields.length cf] 43)).heap.size = w2.heap.size + 1 := by simp
        have HZ3 : Hid _ := hz3
        have HZ2 : Hid _ := hz2
        clear hbl hz3 hz2 hox hb2 hbb
        refine wpAnyH_ready (rs := [8]) (by kernel_rfl) (by simp) ?_
        refine AllReadyH.cons rfl (fun K hK => ?_) AllReadyH.nil
        go_simp
        refine hK.out _ _ ?_ (fun hHeld => ?_)
        · exact HS.out _ HC3.out
        clear hK K
        try simp only [Act.put, List.setIfInBounds_toArray, List.set_cons_succ, List.set_cons_zero]
        refine wpAnyH_ready (rs := [9]) (by kernel_rfl) (by simp) ?_
        refine AllReadyH.cons rfl (fun K hK => ?_) AllReadyH.nil
        refine step_append_R (c := rowC) (d := some 24) rfl rfl (.tmp 16) (.tmp 23) 26 rfl (w.heap.size + 3) 43 i0 _ 7 120 Try.underlying26 hi0 hz0 hz1 hz2 rfl (by decide) _ _ _ rfl HU3.out _ rfl [(⟨(esAt l j).e, al, cl, as_, cs, af, cf⟩ : Row)] (row_one_at (heap_alloc_new w2 _)) rowC_len rowC_one (by unfold maxLen; simp; omega) (by simp; omega) (by have h1 := HZ3.out; have h2 := HZ2.out; omega) ?_; intro u4 w4 ho4 hg4; have HC4 : Hid (Below (w.heap.size + 1) W1 w4) := HC3.out.grown hg4 (by have := HC3.out.size; omega) (fun k hk => by have := World.ownsRow.lt HG1.out.rows k hk; omega)
        refine hK.out _ _ ?_ (fun hHeld => ?_)
        · exact HS.out _ HC4.out
        clear hK K
        (try simp only [Act.put]); (try simp only [List.setIfInBounds_toArray]); (try simp only [List.set_cons_succ]); (try simp only [List.set_cons_zero])
        have QO4 : Hid (w4.heap[w.heap.size + 1 + 1]? = _) := (hg4.block _ (Array.getElem?_eq_some_iff.1 QO3.out).1 (gr_ne HG1.out (.inl (by omega)))).trans QO3.out
        have QR4 : Hid (w4.heap[w.heap.size + 1]? = _) := (hg4.block _ (Array.getElem?_eq_some_iff.1 QR3.out).1 (gr_ne HG1.out (.inl (by omega)))).trans QR3.out
        have hgr := gr_add (x := (⟨(esAt l j).e, al, cl, as_, cs, af, cf⟩ : Row)) (w1 := w2) HU3.out HE3.out HX3.out (by rw [HZ3.out]; omega) (by simpa using ho4) hg4
        have hB4 : Below w.heap.size w w4 := HB3.out.grown hg4 HB3.out.size (fun k hk => by have := World.ownsRow.lt HG1.out.rows k hk; omega)
        obtain ⟨a4, c4, rfl⟩ := readsR_shape (gr_reads hgr).rows
        have HGR : Hid _ := hgr
        have HB4 : Hid _ := hB4
        have o4 : w4.cell? ⟨w.heap.size + 1 + 1, 1, none⟩ = some u := by rw [cell_of_row _ _ _ _ _ _ QO4.out]; rfl
        have f4 : ∀ o, w4.frozen? ⟨w.heap.size + 1 + 1, o, none⟩ = false := fun o => by simp [World.frozen?, QO4.out]
        clear hgr hB4 ho4 hg4
        refine takeH (i := 10) (d := (some 25)) (v := ?_) rfl rfl (by kernel_rfl) (by kernel_rfl) (by kernel_rfl) (fun _ _ _ h => h) (by kernel_rfl) ?_ (by assumption) ?_
        rotate_left
        · (intro w hSw; (try dsimp only at hSw); go_simp; try with_reducible rfl)
        try simp only [Act.put, List.setIfInBounds_toArray, List.set_cons_succ, List.set_cons_zero]
        refine wpAnyH_ready (rs := [11]) (by kernel_rfl) (by simp) ?_
        refine AllReadyH.cons rfl (fun K hK => ?_) AllReadyH.nil
        go_simp
        refine hK.out _ _ ?_ (fun hHeld => ?_)
        · exact HS.out _ (HC4.out.setCell (p := ⟨w.heap.size + 1 + 1, 1, none⟩) (by show w.heap.size + 1 ≤ w.heap.size + 1 + 1; omega) _)
        clear hK K
        try simp only [Act.put, List.setIfInBounds_toArray, List.set_cons_succ, List.set_cons_zero]
        refine wpAnyH_done (by kernel_rfl) ?_ _
        have R1 : Hid _ := gr_cell HGR.out ⟨w.heap.size + 1 + 1, 1, none⟩ (.slice a4 (ys ++ [(⟨(esAt l j).e, al, cl, as_, cs, af, cf⟩ : Row)]).length c4) (by show w.heap.size + 1 + 1 < _; omega)
        have R2 : Hid (Below w.heap.size w (w4.setCell ⟨w.heap.size + 1 + 1, 1, none⟩ (.slice a4 (ys ++ [(⟨(esAt l j).e, al, cl, as_, cs, af, cf⟩ : Row)]).length c4))) := HB4.out.setCell (p := ⟨w.heap.size + 1 + 1, 1, none⟩) (by show w.heap.size ≤ w.heap.size + 1 + 1; omega) _
        have R3 : Hid ((w4.setCell ⟨w.heap.size + 1 + 1, 1, none⟩ (.slice a4 (ys ++ [(⟨(esAt l j).e, al, cl, as_, cs, af, cf⟩ : Row)]).length c4)).heap[w.heap.size + 1 + 1]? = some (.cells #[.int .i64 n, .slice a4 (ys ++ [(⟨(esAt l j).e, al, cl, as_, cs, af, cf⟩ : Row)]).length c4] 28 (0, 0))) := by
          show _ = _
          rw [heap_setCell_same _ (w.heap.size + 1 + 1) 1 _ _ _ QO4.out]; rfl
        have R4 : Hid ((w4.setCell ⟨w.heap.size + 1 + 1, 1, none⟩ (.slice a4 (ys ++ [(⟨(esAt l j).e, al, cl, as_, cs, af, cf⟩ : Row)]).length c4)).heap[w.heap.size + 1]? = _) := (Below.heap_setCell _ _ _ _ (by show w.heap.size + 1 ≠ w.heap.size + 1 + 1; omega)).trans QR4.out
        have QP4 : Hid (w4.heap[w.heap.size]? = _) := (HC4.out.block _ (by omega)).trans Q0.out
        have R7 : Hid ((w4.setCell ⟨w.heap.size + 1 + 1, 1, none⟩ (.slice a4 (ys ++ [(⟨(esAt l j).e, al, cl, as_, cs, af, cf⟩ : Row)]).length c4)).heap[w.heap.size]? = _) := (Below.heap_setCell _ _ _ _ (by show w.heap.size ≠ w.heap.size + 1 + 1; omega)).trans QP4.out
        have R5 : Hid ((ys ++ [(⟨(esAt l j).e, al, cl, as_, cs, af, cf⟩ : Row)]).map Row.e = (l.take (j + 1)).map Row.e) := by
          show _ = _
          rw [List.map_append, HY.out, take_es hlt, List.map_append]; rfl
        have R6 : (ys ++ [(⟨(esAt l j).e, al, cl, as_, cs, af, cf⟩ : Row)]).length = j + 1 := by rw [List.length_append, hys]; rfl
        rw [R6] at R1 R2 R3 R4 R7
        clear o4 f4 R6
        go_wp2_with fail
        go_roundw
        case rel => exact ⟨j + 1, _, _, hlt, by go_num, R5, R3, R4, R7, R1.out, R2.out⟩
        case measure => simp [intOf]; omega
      · go_simp
        refine (l4Entry_any (esAt l j).e _ _ _ _ HI.out hsm).mono ?_
        rintro x w2 ⟨⟨ul, us, uf, rfl, hox⟩, hb2⟩
        refine hK.out _ _ ?_ (fun hHeld => ?_)
        · exact HS.out _ (hb2.mono (by omega))
        clear hK K
        (try simp only [Act.put]); (try simp only [List.setIfInBounds_toArray]); (try simp only [List.set_cons_succ]); (try simp only [List.set_cons_zero])
        have o2 : w2.cell? ⟨w.heap.size + 1 + 1, 1, none⟩ = some u := (hb2.cell (p := ⟨w.heap.size + 1 + 1, 1, none⟩) (by show w.heap.size + 1 + 1 < _; omega)).trans o1
        refine wpAnyH_ready (rs := [1, 8]) (by kernel_rfl) (by simp) ?_
        refine AllReadyH.cons rfl (fun K hK => ?_) (AllReadyH.cons rfl (fun K hK => ?_) AllReadyH.nil)
        · go_simp
          refine hK.out _ _ ?_ (fun hHeld => ?_)
          · exact hHeld
          clear hK K
          (try simp only [Act.put]); (try simp only [List.setIfInBounds_toArray]); (try simp only [List.set_cons_succ]); (try simp only [List.set_cons_zero])
          obtain ⟨al, cl, as_, cs, af, cf, rfl, rfl, rfl⟩ := enReads_shape (enOwn_reads hox)
          have hz2 := hb2.size
          have hbl : Below w2.heap.size w2 (w2.alloc (.cells #[.string (esAt l j).e.key, .int .i64 (esAt l j).e.til, .int .i64 (esAt l j).e.kind, .string (esAt l j).e.text, .slice al (esAt l j).e.list.length cl, .slice as_ (esAt l j).e.scores.length cs, .slice af (esAt l j).e.fields.length cf] 43)) := (Below.refl _ w2).alloc (Nat.le_refl _) _
          have QO3 : Hid ((w2.alloc (.cells #[.string (esAt l j).e.key, .int .i64 (esAt l j).e.til, .int .i64 (esAt l j).e.kind, .string (esAt l j).e.text, .slice al (esAt l j).e.list.length cl, .slice as_ (esAt l j).e.scores.length cs, .slice af (esAt l j).e.fields.length cf] 43)).heap[w.heap.size + 1 + 1]? = _) := (hbl.block _ (by omega)).trans ((hb2.block _ (by omega)).trans QO.out)
          have QR3 : Hid ((w2.alloc (.cells #[.string (esAt l j).e.key, .int .i64 (esAt l j).e.til, .int .i64 (esAt l j).e.kind, .string (esAt l j).e.text, .slice al (esAt l j).e.list.length cl, .slice as_ (esAt l j).e.scores.length cs, .slice af (esAt l j).e.fields.length cf] 43)).heap[w.heap.size + 1]? = _) := (hbl.block _ (by omega)).trans ((hb2.block _ (by omega)).trans QR.out)
          have HU3 : Hid _ := ownsR_kept (ownsR_kept HG1.out.rows hb2) hbl
          have HE3 : Hid _ := ensOwn_kept (ensOwn_kept HG1.out.ins hb2) hbl
          have HX3 : Hid _ := enOwn_kept hox hbl
          have hbb := (hb2.trans (hbl.mono hz2))
          have HB3 : Hid (Below w.heap.size w (w2.alloc (.cells #[.string (esAt l j).e.key, .int .i64 (esAt l j).e.til, .int .i64 (esAt l j).e.kind, .string (esAt l j).e.text, .slice al (esAt l j).e.list.length cl, .slice as_ (esAt l j).e.scores.length cs, .slice af (esAt l j).e.fields.length cf] 43))) := HB1.out.trans (hbb.mono HB1.out.size)
          have HC3 : Hid (Below (w.heap.size + 1) W1 (w2.alloc (.cells #[.string (esAt l j).e.key, .int .i64 (esAt l j).e.til, .int .i64 (esAt l j).e.kind, .string (esAt l j).e.text, .slice al (esAt l j).e.list.length cl, .slice as_ (esAt l j).e.scores.length cs, .slice af (esAt l j).e.fields.length cf] 43))) := hbb.mono (by omega)
          have hz3 : (w2.alloc (.cells #[.string (esAt l j).e.key, .int .i64 (esAt l j).e.til, .int .i64 (esAt l j).e.kind, .string (esAt l j).e.text, .slice al (esAt l j).e.list.length cl, .slice as_ (esAt l j).e.scores.length cs, .slice af (esAt l j).e.fields.length cf] 43)).heap.size = w2.heap.size + 1 := by simp
          have HZ3 : Hid _ := hz3
          have HZ2 : Hid _ := hz2
          clear hbl hz3 hz2 hox hb2 hbb
          refine wpAnyH_ready (rs := [8]) (by kernel_rfl) (by simp) ?_
          refine AllReadyH.cons rfl (fun K hK => ?_) AllReadyH.nil
          go_simp
          refine hK.out _ _ ?_ (fun hHeld => ?_)
          · exact HS.out _ HC3.out
          clear hK K
          try simp only [Act.put, List.setIfInBounds_toArray, List.set_cons_succ, List.set_cons_zero]
          refine wpAnyH_ready (rs := [9]) (by kernel_rfl) (by simp) ?_
          refine AllReadyH.cons rfl (fun K hK => ?_) AllReadyH.nil
          refine step_append_R (c := rowC) (d := some 24) rfl rfl (.tmp 16) (.tmp 23) 26 rfl (w.heap.size + 3) 43 i0 _ 7 120 Try.underlying26 hi0 hz0 hz1 hz2 rfl (by decide) _ _ _ rfl HU3.out _ rfl [(⟨(esAt l j).e, al, cl, as_, cs, af, cf⟩ : Row)] (row_one_at (heap_alloc_new w2 _)) rowC_len rowC_one (by unfold maxLen; simp; omega) (by simp; omega) (by have h1 := HZ3.out; have h2 := HZ2.out; omega) ?_; intro u4 w4 ho4 hg4; have HC4 : Hid (Below (w.heap.size + 1) W1 w4) := HC3.out.grown hg4 (by have := HC3.out.size; omega) (fun k hk => by have := World.ownsRow.lt HG1.out.rows k hk; omega)
          refine hK.out _ _ ?_ (fun hHeld => ?_)
          · exact HS.out _ HC4.out
          clear hK K
          (try simp only [Act.put]); (try simp only [List.setIfInBounds_toArray]); (try simp only [List.set_cons_succ]); (try simp only [List.set_cons_zero])
          have QO4 : Hid (w4.heap[w.heap.size + 1 + 1]? = _) := (hg4.block _ (Array.getElem?_eq_some_iff.1 QO3.out).1 (gr_ne HG1.out (.inl (by omega)))).trans QO3.out
          have QR4 : Hid (w4.heap[w.heap.size + 1]? = _) := (hg4.block _ (Array.getElem?_eq_some_iff.1 QR3.out).1 (gr_ne HG1.out (.inl (by omega)))).trans QR3.out
          have hgr := gr_add (x := (⟨(esAt l j).e, al, cl, as_, cs, af, cf⟩ : Row)) (w1 := w2) HU3.out HE3.out HX3.out (by rw [HZ3.out]; omega) (by simpa using ho4) hg4
          have hB4 : Below w.heap.size w w4 := HB3.out.grown hg4 HB3.out.size (fun k hk => by have := World.ownsRow.lt HG1.out.rows k hk; omega)
          obtain ⟨a4, c4, rfl⟩ := readsR_shape (gr_reads hgr).rows
          have HGR : Hid _ := hgr
          have HB4 : Hid _ := hB4
          have o4 : w4.cell? ⟨w.heap.size + 1 + 1, 1, none⟩ = some u := by rw [cell_of_row _ _ _ _ _ _ QO4.out]; rfl
          have f4 : ∀ o, w4.frozen? ⟨w.heap.size + 1 + 1, o, none⟩ = false := fun o => by simp [World.frozen?, QO4.out]
          clear hgr hB4 ho4 hg4
          refine takeH (i := 10) (d := (some 25)) (v := ?_) rfl rfl (by kernel_rfl) (by kernel_rfl) (by kernel_rfl) (fun _ _ _ h => h) (by kernel_rfl) ?_ (by assumption) ?_
          rotate_left
          · (intro w hSw; (try dsimp only at hSw); go_simp; try with_reducible rfl)
          try simp only [Act.put, List.setIfInBounds_toArray, List.set_cons_succ, List.set_cons_zero]
          refine wpAnyH_ready (rs := [11]) (by kernel_rfl) (by simp) ?_
          refine AllReadyH.cons rfl (fun K hK => ?_) AllReadyH.nil
          go_simp
          refine hK.out _ _ ?_ (fun hHeld => ?_)
          · exact HS.out _ (HC4.out.setCell (p := ⟨w.heap.size + 1 + 1, 1, none⟩) (by show w.heap.size + 1 ≤ w.heap.size + 1 + 1; omega) _)
          clear hK K
          try simp only [Act.put, List.setIfInBounds_toArray, List.set_cons_succ, List.set_cons_zero]
          refine wpAnyH_done (by kernel_rfl) ?_ _
          have R1 : Hid _ := gr_cell HGR.out ⟨w.heap.size + 1 + 1, 1, none⟩ (.slice a4 (ys ++ [(⟨(esAt l j).e, al, cl, as_, cs, af, cf⟩ : Row)]).length c4) (by show w.heap.size + 1 + 1 < _; omega)
          have R2 : Hid (Below w.heap.size w (w4.setCell ⟨w.heap.size + 1 + 1, 1, none⟩ (.slice a4 (ys ++ [(⟨(esAt l j).e, al, cl, as_, cs, af, cf⟩ : Row)]).length c4))) := HB4.out.setCell (p := ⟨w.heap.size + 1 + 1, 1, none⟩) (by show w.heap.size ≤ w.heap.size + 1 + 1; omega) _
          have R3 : Hid ((w4.setCell ⟨w.heap.size + 1 + 1, 1, none⟩ (.slice a4 (ys ++ [(⟨(esAt l j).e, al, cl, as_, cs, af, cf⟩ : Row)]).length c4)).heap[w.heap.size + 1 + 1]? = some (.cells #[.int .i64 n, .slice a4 (ys ++ [(⟨(esAt l j).e, al, cl, as_, cs, af, cf⟩ : Row)]).length c4] 28 (0, 0))) := by
            show _ = _
            rw [heap_setCell_same _ (w.heap.size + 1 + 1) 1 _ _ _ QO4.out]; rfl
          have R4 : Hid ((w4.setCell ⟨w.heap.size + 1 + 1, 1, none⟩ (.slice a4 (ys ++ [(⟨(esAt l j).e, al, cl, as_, cs, af, cf⟩ : Row)]).length c4)).heap[w.heap.size + 1]? = _) := (Below.heap_setCell _ _ _ _ (by show w.heap.size + 1 ≠ w.heap.size + 1 + 1; omega)).trans QR4.out
          have QP4 : Hid (w4.heap[w.heap.size]? = _) := (HC4.out.block _ (by omega)).trans Q0.out
          have R7 : Hid ((w4.setCell ⟨w.heap.size + 1 + 1, 1, none⟩ (.slice a4 (ys ++ [(⟨(esAt l j).e, al, cl, as_, cs, af, cf⟩ : Row)]).length c4)).heap[w.heap.size]? = _) := (Below.heap_setCell _ _ _ _ (by show w.heap.size ≠ w.heap.size + 1 + 1; omega)).trans QP4.out
          have R5 : Hid ((ys ++ [(⟨(esAt l j).e, al, cl, as_, cs, af, cf⟩ : Row)]).map Row.e = (l.take (j + 1)).map Row.e) := by
            show _ = _
            rw [List.map_append, HY.out, take_es hlt, List.map_append]; rfl
          have R6 : (ys ++ [(⟨(esAt l j).e, al, cl, as_, cs, af, cf⟩ : Row)]).length = j + 1 := by rw [List.length_append, hys]; rfl
          rw [R6] at R1 R2 R3 R4 R7
          clear o4 f4 R6
          go_wp2_with fail
          go_roundw
          case rel => exact ⟨j + 1, _, _, hlt, by go_num, R5, R3, R4, R7, R1.out, R2.out⟩
          case measure => simp [intOf]; omega
        · 
          obtain ⟨al, cl, as_, cs, af, cf, rfl, rfl, rfl⟩ := enReads_shape (enOwn_reads hox)
          have hz2 := hb2.size
          have hbl : Below w2.heap.size w2 (w2.alloc (.cells #[.string (esAt l j).e.key, .int .i64 (esAt l j).e.til, .int .i64 (esAt l j).e.kind, .string (esAt l j).e.text, .slice al (esAt l j).e.list.length cl, .slice as_ (esAt l j).e.scores.length cs, .slice af (esAt l j).e.fields.length cf] 43)) := (Below.refl _ w2).alloc (Nat.le_refl _) _
          have QO3 : Hid ((w2.alloc (.cells #[.string (esAt l j).e.key, .int .i64 (esAt l j).e.til, .int .i64 (esAt l j).e.kind, .string (esAt l j).e.text, .slice al (esAt l j).e.list.length cl, .slice as_ (esAt l j).e.scores.length cs, .slice af (esAt l j).e.fields.length cf] 43)).heap[w.heap.size + 1 + 1]? = _) := (hbl.block _ (by omega)).trans ((hb2.block _ (by omega)).trans QO.out)
          have QR3 : Hid ((w2.alloc (.cells #[.string (esAt l j).e.key, .int .i64 (esAt l j).e.til, .int .i64 (esAt l j).e.kind, .string (esAt l j).e.text, .slice al (esAt l j).e.list.length cl, .slice as_ (esAt l j).e.scores.length cs, .slice af (esAt l j).e.fields.length cf] 43)).heap[w.heap.size + 1]? = _) := (hbl.block _ (by omega)).trans ((hb2.block _ (by omega)).trans QR.out)
          have HU3 : Hid _ := ownsR_kept (ownsR_kept HG1.out.rows hb2) hbl
          have HE3 : Hid _ := ensOwn_kept (ensOwn_kept HG1.out.ins hb2) hbl
          have HX3 : Hid _ := enOwn_kept hox hbl
          have hbb := (hb2.trans (hbl.mono hz2))
          have HB3 : Hid (Below w.heap.size w (w2.alloc (.cells #[.string (esAt l j).e.key, .int .i64 (esAt l j).e.til, .int .i64 (esAt l j).e.kind, .string (esAt l j).e.text, .slice al (esAt l j).e.list.length cl, .slice as_ (esAt l j).e.scores.length cs, .slice af (esAt l j).e.fields.length cf] 43))) := HB1.out.trans (hbb.mono HB1.out.size)
          have HC3 : Hid (Below (w.heap.size + 1) W1 (w2.alloc (.cells #[.string (esAt l j).e.key, .int .i64 (esAt l j).e.til, .int .i64 (esAt l j).e.kind, .string (esAt l j).e.text, .slice al (esAt l j).e.list.length cl, .slice as_ (esAt l j).e.scores.length cs, .slice af (esAt l j).e.fields.length cf] 43))) := hbb.mono (by omega)
          have hz3 : (w2.alloc (.cells #[.string (esAt l j).e.key, .int .i64 (esAt l j).e.til, .int .i64 (esAt l j).e.kind, .string (esAt l j).e.text, .slice al (esAt l j).e.list.length cl, .slice as_ (esAt l j).e.scores.length cs, .slice af (esAt l j).e.fields.length cf] 43)).heap.size = w2.heap.size + 1 := by simp
          have HZ3 : Hid _ := hz3
          have HZ2 : Hid _ := hz2
          clear hbl hz3 hz2 hox hb2 hbb
          go_simp
          refine hK.out _ _ ?_ (fun hHeld => ?_)
          · exact HS.out _ HC3.out
          clear hK K
          (try simp only [Act.put]); (try simp only [List.setIfInBounds_toArray]); (try simp only [List.set_cons_succ]); (try simp only [List.set_cons_zero])
          have o3 : (w2.alloc (.cells #[.string (esAt l j).e.key, .int .i64 (esAt l j).e.til, .int .i64 (esAt l j).e.kind, .string (esAt l j).e.text, .slice al (esAt l j).e.list.length cl, .slice as_ (esAt l j).e.scores.length cs, .slice af (esAt l j).e.fields.length cf] 43)).cell? ⟨w.heap.size + 1 + 1, 1, none⟩ = some u := by rw [cell_of_row _ _ _ _ _ _ QO3.out]; rfl
          refine wpAnyH_ready (rs := [1]) (by kernel_rfl) (by simp) ?_
          refine AllReadyH.cons rfl (fun K hK => ?_) AllReadyH.nil
          go_simp
          refine hK.out _ _ ?_ (fun hHeld => ?_)
          · exact HS.out _ HC3.out
          clear hK K
          try simp only [Act.put, List.setIfInBounds_toArray, List.set_cons_succ, List.set_cons_zero]
          refine wpAnyH_ready (rs := [9]) (by kernel_rfl) (by simp) ?_
          refine AllReadyH.cons rfl (fun K hK => ?_) AllReadyH.nil
          refine step_append_R (c := rowC) (d := some 24) rfl rfl (.tmp 16) (.tmp 23) 26 rfl (w.heap.size + 3) 43 i0 _ 7 120 Try.underlying26 hi0 hz0 hz1 hz2 rfl (by decide) _ _ _ rfl HU3.out _ rfl [(⟨(esAt l j).e, al, cl, as_, cs, af, cf⟩ : Row)] (row_one_at (heap_alloc_new w2 _)) rowC_len rowC_one (by unfold maxLen; simp; omega) (by simp; omega) (by have h1 := HZ3.out; have h2 := HZ2.out; omega) ?_; intro u4 w4 ho4 hg4; have HC4 : Hid (Below (w.heap.size + 1) W1 w4) := HC3.out.grown hg4 (by have := HC3.out.size; omega) (fun k hk => by have := World.ownsRow.lt HG1.out.rows k hk; omega)
          refine hK.out _ _ ?_ (fun hHeld => ?_)
          · exact HS.out _ HC4.out
          clear hK K
          (try simp only [Act.put]); (try simp only [List.setIfInBounds_toArray]); (try simp only [List.set_cons_succ]); (try simp only [List.set_cons_zero])
          have QO4 : Hid (w4.heap[w.heap.size + 1 + 1]? = _) := (hg4.block _ (Array.getElem?_eq_some_iff.1 QO3.out).1 (gr_ne HG1.out (.inl (by omega)))).trans QO3.out
          have QR4 : Hid (w4.heap[w.heap.size + 1]? = _) := (hg4.block _ (Array.getElem?_eq_some_iff.1 QR3.out).1 (gr_ne HG1.out (.inl (by omega)))).trans QR3.out
          have hgr := gr_add (x := (⟨(esAt l j).e, al, cl, as_, cs, af, cf⟩ : Row)) (w1 := w2) HU3.out HE3.out HX3.out (by rw [HZ3.out]; omega) (by simpa using ho4) hg4
          have hB4 : Below w.heap.size w w4 := HB3.out.grown hg4 HB3.out.size (fun k hk => by have := World.ownsRow.lt HG1.out.rows k hk; omega)
          obtain ⟨a4, c4, rfl⟩ := readsR_shape (gr_reads hgr).rows
          have HGR : Hid _ := hgr
          have HB4 : Hid _ := hB4
          have o4 : w4.cell? ⟨w.heap.size + 1 + 1, 1, none⟩ = some u := by rw [cell_of_row _ _ _ _ _ _ QO4.out]; rfl
          have f4 : ∀ o, w4.frozen? ⟨w.heap.size + 1 + 1, o, none⟩ = false := fun o => by simp [World.frozen?, QO4.out]
          clear hgr hB4 ho4 hg4
          refine takeH (i := 10) (d := (some 25)) (v := ?_) rfl rfl (by kernel_rfl) (by kernel_rfl) (by kernel_rfl) (fun _ _ _ h => h) (by kernel_rfl) ?_ (by assumption) ?_
          rotate_left
          · (intro w hSw; (try dsimp only at hSw); go_simp; try with_reducible rfl)
          try simp only [Act.put, List.setIfInBounds_toArray, List.set_cons_succ, List.set_cons_zero]
          refine wpAnyH_ready (rs := [11]) (by kernel_rfl) (by simp) ?_
          refine AllReadyH.cons rfl (fun K hK => ?_) AllReadyH.nil
          go_simp
          refine hK.out _ _ ?_ (fun hHeld => ?_)
          · exact HS.out _ (HC4.out.setCell (p := ⟨w.heap.size + 1 + 1, 1, none⟩) (by show w.heap.size + 1 ≤ w.heap.size + 1 + 1; omega) _)
          clear hK K
          try simp only [Act.put, List.setIfInBounds_toArray, List.set_cons_succ, List.set_cons_zero]
          refine wpAnyH_done (by kernel_rfl) ?_ _
          have R1 : Hid _ := gr_cell HGR.out ⟨w.heap.size + 1 + 1, 1, none⟩ (.slice a4 (ys ++ [(⟨(esAt l j).e, al, cl, as_, cs, af, cf⟩ : Row)]).length c4) (by show w.heap.size + 1 + 1 < _; omega)
          have R2 : Hid (Below w.heap.size w (w4.setCell ⟨w.heap.size + 1 + 1, 1, none⟩ (.slice a4 (ys ++ [(⟨(esAt l j).e, al, cl, as_, cs, af, cf⟩ : Row)]).length c4))) := HB4.out.setCell (p := ⟨w.heap.size + 1 + 1, 1, none⟩) (by show w.heap.size ≤ w.heap.size + 1 + 1; omega) _
          have R3 : Hid ((w4.setCell ⟨w.heap.size + 1 + 1, 1, none⟩ (.slice a4 (ys ++ [(⟨(esAt l j).e, al, cl, as_, cs, af, cf⟩ : Row)]).length c4)).heap[w.heap.size + 1 + 1]? = some (.cells #[.int .i64 n, .slice a4 (ys ++ [(⟨(esAt l j).e, al, cl, as_, cs, af, cf⟩ : Row)]).length c4] 28 (0, 0))) := by
            show _ = _
            rw [heap_setCell_same _ (w.heap.size + 1 + 1) 1 _ _ _ QO4.out]; rfl
          have R4 : Hid ((w4.setCell ⟨w.heap.size + 1 + 1, 1, none⟩ (.slice a4 (ys ++ [(⟨(esAt l j).e, al, cl, as_, cs, af, cf⟩ : Row)]).length c4)).heap[w.heap.size + 1]? = _) := (Below.heap_setCell _ _ _ _ (by show w.heap.size + 1 ≠ w.heap.size + 1 + 1; omega)).trans QR4.out
          have QP4 : Hid (w4.heap[w.heap.size]? = _) := (HC4.out.block _ (by omega)).trans Q0.out
          have R7 : Hid ((w4.setCell ⟨w.heap.size + 1 + 1, 1, none⟩ (.slice a4 (ys ++ [(⟨(esAt l j).e, al, cl, as_, cs, af, cf⟩ : Row)]).length c4)).heap[w.heap.size]? = _) := (Below.heap_setCell _ _ _ _ (by show w.heap.size ≠ w.heap.size + 1 + 1; omega)).trans QP4.out
          have R5 : Hid ((ys ++ [(⟨(esAt l j).e, al, cl, as_, cs, af, cf⟩ : Row)]).map Row.e = (l.take (j + 1)).map Row.e) := by
            show _ = _
            rw [List.map_append, HY.out, take_es hlt, List.map_append]; rfl
          have R6 : (ys ++ [(⟨(esAt l j).e, al, cl, as_, cs, af, cf⟩ : Row)]).length = j + 1 := by rw [List.length_append, hys]; rfl
          rw [R6] at R1 R2 R3 R4 R7
          clear o4 f4 R6
          go_wp2_with fail
          go_roundw
          case rel => exact ⟨j + 1, _, _, hlt, by go_num, R5, R3, R4, R7, R1.out, R2.out⟩
          case measure => simp [intOf]; omega
    · obtain rfl : j = l.length := by omega
      obtain ⟨au, cu, rfl⟩ := readsR_shape (gr_reads hG).rows
      have p9 : wr.cell? ⟨w.heap.size, 1, none⟩ = some (.slice ao l.length cap) := by rw [cell_of_row _ _ _ _ _ _ P0.out]; rfl
      have x2 := Q2.out
      have x1 := Q1.out
      have p0 : wr.cell? ⟨w.heap.size + 1 + 1, 0, none⟩ = some (.int .i64 n) := by rw [cell_of_row _ _ _ _ _ _ x2]; rfl
      have p1 : wr.cell? ⟨w.heap.size + 1 + 1, 1, none⟩ = some (.slice au ys.length cu) := by rw [cell_of_row _ _ _ _ _ _ x2]; rfl
      have r0 : wr.cell? ⟨w.heap.size + 1, 0, none⟩ = some (.int .i64 0) := by rw [cell_of_row _ _ _ _ _ _ x1]; rfl
      have r1 : wr.cell? ⟨w.heap.size + 1, 1, none⟩ = some (.slice none 0 0) := by rw [cell_of_row _ _ _ _ _ _ x1]; rfl
      have f1 : ∀ o, wr.frozen? ⟨w.heap.size + 1, o, none⟩ = false := fun o => by simp [World.frozen?, x1]
      clear x2 x1
      have hw := hB.size
      go_wp2_with fail
      have g1 := gr_cell (gr_cell hG ⟨w.heap.size + 1, 0, none⟩ (.int .i64 n) (by show w.heap.size + 1 < _; omega)) ⟨w.heap.size + 1, 1, none⟩ (.slice au ys.length cu) (by show w.heap.size + 1 < _; omega)
      have b1 := (hB.setCell (p := ⟨w.heap.size + 1, 0, none⟩) (by show w.heap.size ≤ w.heap.size + 1; omega) (.int .i64 n)).setCell (p := ⟨w.heap.size + 1, 1, none⟩) (by show w.heap.size ≤ w.heap.size + 1; omega) (.slice au ys.length cu)
      refine bodyPost_ret (results_cell_row rfl _ _ (w.heap.size + 1) 28 _ (0, 0) _ rfl (by rw [heap_setCell_same _ (w.heap.size + 1) 1 _ _ _ (heap_setCell_same _ (w.heap.size + 1) 0 _ _ _ Q1.out)]) Try.underlying28 rfl (by kernel_rfl)) rfl ?_
      exact ⟨⟨_, ys, rfl, by rw [HY.out, List.take_length], gr_base g1 (by omega)⟩, b1⟩
end Go.Proofs.Ytnaklhompdcgeaa
/- The model's l4Tick: what lasts is copied. -/
namespace Go.Proofs.Ytnaklhompdcgeaa
open Go.RowKit
set_option linter.unusedVariables false

set_option maxHeartbeats 8000000 in
set_option maxRecDepth 100000 in
theorem l4Tick_any (n d : Int) (v : Value) (l : List Row) (w : World) (hr : EsReads w v l) (hs : EsSmall l) (hn : 0 ≤ n) (hn2 : n ≤ 1000000) (hd : 0 ≤ d) (hd2 : d ≤ 1000000 - n) :
    Calls Try.prog 15 #[bsV n v, .int .i64 d] w fun x w' => (∃ u ys, x = .returned (bsV (n + d) u) ∧ ys.map Row.e = (l.map Row.e).filter (fun e => lastsB e (n + d)) ∧ Gr w' w.heap.size u ys) ∧ Below w.heap.size w w' := by
  obtain ⟨ao, cap, rfl⟩ := readsR_shape hr.rows
  have hlen := hs.len
  obtain ⟨i0, hi0, hz0, hz1, hz2⟩ := info_parts enInfo
  go_enter Try.func15, Try.ntmps15
  go_wp2_with fail
  obtain ⟨w0, hW⟩ : ∃ W, ((w.alloc (.cells #[.int .i64 n, .slice ao l.length cap] 28)).alloc (.cells #[.int .i64 0, .slice none 0 0] 28)).alloc (.cells #[.int .i64 (n + d), .slice none 0 0] 28) = W := ⟨_, rfl⟩
  have hB0 : Below w.heap.size w w0 := by rw [← hW]; exact (((Below.refl _ w).alloc (Nat.le_refl _) _).alloc (by simp) _).alloc (by simp; omega) _
  have hzz : w0.heap.size = w.heap.size + 3 := by rw [← hW]; simp
  have qp : w0.heap[w.heap.size]? = some (.cells #[.int .i64 n, .slice ao l.length cap] 28 (0, 0)) := (by rw [← hW]; exact (((Below.refl (w.heap.size + 1) _).alloc (by simp) _).alloc (by simp) _).block _ (by omega) : w0.heap[w.heap.size]? = (w.alloc (.cells #[.int .i64 n, .slice ao l.length cap] 28)).heap[w.heap.size]?).trans (heap_alloc_new _ _)
  have QP : Hid _ := qp
  have q1 : w0.heap[w.heap.size + 1]? = some (.cells #[.int .i64 0, .slice none 0 0] 28 (0, 0)) := by rw [← hW]; exact heap_mid _ _ _ _
  have q2 : w0.heap[w.heap.size + 1 + 1]? = some (.cells #[.int .i64 (n + d), .slice none 0 0] 28 (0, 0)) := by
    rw [← hW]
    have := heap_alloc_new ((w.alloc (.cells #[.int .i64 n, .slice ao l.length cap] 28)).alloc (.cells #[.int .i64 0, .slice none 0 0] 28)) (.cells #[.int .i64 (n + d), .slice none 0 0] 28)
    rw [World.size_alloc, World.size_alloc] at this
    exact this
  rw [hW]
  have G0 : Gr w0 (w.heap.size + 3) (.slice none 0 0) [] := gr_nil (by omega)
  have Q1 : Hid _ := q1
  have Q2 : Hid _ := q2
  clear hW q1 q2 qp
  go_loopw [6] (fun i wr => ∃ (j : Nat) (u : Value) (ys : List Row), j ≤ l.length ∧ i = .int .i64 j ∧ Hid (ys.map Row.e = ((l.take j).map Row.e).filter (fun e => lastsB e (n + d))) ∧ Hid (wr.heap[w.heap.size + 1 + 1]? = some (.cells #[.int .i64 (n + d), u] 28 (0, 0))) ∧ Hid (wr.heap[w.heap.size + 1]? = some (.cells #[.int .i64 0, .slice none 0 0] 28 (0, 0))) ∧ Hid (wr.heap[w.heap.size]? = some (.cells #[.int .i64 n, .slice ao l.length cap] 28 (0, 0))) ∧ Gr wr (w.heap.size + 3) u ys ∧ Below w.heap.size w wr) (fun i _ => l.length - (intOf i).toNat)
  case atStart => exact ⟨0, _, [], Nat.zero_le _, rfl, rfl, Q2, Q1, QP, G0, hB0⟩
  case round =>
    clear G0 Q1 Q2 QP hB0 hzz
    obtain ⟨j, u, ys, hj, rfl, HY, Q2, Q1, P0, hG, hB⟩ := hrel
    by_cases hlt : j < l.length
    · obtain ⟨b, off, rfl, hb, hnc, hcm, hc⟩ := es_some hr.rows (by omega)
      obtain ⟨c0, c1, c2, c3, c4, c5, c6⟩ := es_cells hc hB hb hlt
      have hk1 : (j : Int) < (l.length : Int) := by omega
      have hin := rowIn_kept (hr.ins _ (esAt_mem hlt)) hB
      have hsm := hs.each _ (esAt_mem hlt)
      have hys : ys.length ≤ j := by
        have h1 := congrArg List.length HY.out
        rw [List.length_map] at h1
        have h2 := List.length_filter_le (fun e => lastsB e (n + d)) ((l.take j).map Row.e)
        rw [List.length_map, List.length_take] at h2; omega
      have hBz := hB.size
      have p0 : wr.cell? ⟨w.heap.size, 1, none⟩ = some (.slice (some ⟨b, off, none⟩) l.length cap) := by rw [cell_of_row _ _ _ _ _ _ P0.out]; rfl
      have o0 : wr.cell? ⟨w.heap.size + 1 + 1, 0, none⟩ = some (.int .i64 (n + d)) := by rw [cell_of_row _ _ _ _ _ _ Q2.out]; rfl
      clear hc hnc hcm
      go_wp2_with fail
      by_cases ht : (esAt l j).e.til = 0
      · have HLT : Hid (lastsB (esAt l j).e (n + d) = true) := by show _ = _; unfold lastsB; simp [ht]
        have cz : wr.cell? ⟨b, off + j * 7 + 1, none⟩ = some (.int .i64 0) := by rw [c1, ht]
        clear ht
        refine wp_region_held_drew (S := (fun w' => w'.cell? ⟨w.heap.size, 1, none⟩ = some (.slice (some ⟨b, off, none⟩) l.length cap) ∧ w'.cell? ⟨b, off + j * 7 + 1, none⟩ = some (.int .i64 0))) (by kernel_rfl) (by exact ⟨p0, cz⟩) (fun hHeld => ?_)
        refine takeH (i := 0) (d := (some 19)) (v := ?_) rfl rfl (by kernel_rfl) (by kernel_rfl) (by kernel_rfl) (fun _ _ _ h => h) (by kernel_rfl) ?_ (by assumption) ?_
        rotate_left
        · (intro w hSw; (try dsimp only at hSw); go_simp; try with_reducible rfl)
        try simp only [Act.put, List.setIfInBounds_toArray, List.set_cons_succ, List.set_cons_zero]
        refine takeH (i := 1) (d := (some 20)) (v := ?_) rfl rfl (by kernel_rfl) (by kernel_rfl) (by kernel_rfl) (fun _ _ _ h => h) (by kernel_rfl) ?_ (by assumption) ?_
        rotate_left
        · (intro w hSw; (try dsimp only at hSw); go_simp; try with_reducible rfl)
        try simp only [Act.put, List.setIfInBounds_toArray, List.set_cons_succ, List.set_cons_zero]
        refine takeH (i := 2) (d := (some 21)) (v := ?_) rfl rfl (by kernel_rfl) (by kernel_rfl) (by kernel_rfl) (fun _ _ _ h => h) (by kernel_rfl) ?_ (by assumption) ?_
        rotate_left
        · (intro w hSw; (try dsimp only at hSw); go_simp; try with_reducible rfl)
        try simp only [Act.put, List.setIfInBounds_toArray, List.set_cons_succ, List.set_cons_zero]
        refine takeH (i := 3) (d := (some 22)) (v := ?_) rfl rfl (by kernel_rfl) (by kernel_rfl) (by kernel_rfl) (fun _ _ _ h => h) (by kernel_rfl) ?_ (by assumption) ?_
        rotate_left
        · (intro w hSw; (try dsimp only at hSw); go_simp; try with_reducible rfl)
        try simp only [Act.put, List.setIfInBounds_toArray, List.set_cons_succ, List.set_cons_zero]
        refine takeH (i := 4) (d := (some 23)) (v := ?_) rfl rfl (by kernel_rfl) (by kernel_rfl) (by kernel_rfl) (fun _ _ _ h => h) (by kernel_rfl) ?_ (by assumption) ?_
        rotate_left
        · (intro w hSw; (try dsimp only at hSw); go_simp; try with_reducible rfl)
        try simp only [Act.put, List.setIfInBounds_toArray, List.set_cons_succ, List.set_cons_zero]
        refine takeH (i := 5) (d := (some 24)) (v := ?_) rfl rfl (by kernel_rfl) (by kernel_rfl) (by kernel_rfl) (fun _ _ _ h => h) (by kernel_rfl) ?_ (by assumption) ?_
        rotate_left
        · (intro w hSw; (try dsimp only at hSw); go_simp; try with_reducible rfl)
        try simp only [Act.put, List.setIfInBounds_toArray, List.set_cons_succ, List.set_cons_zero]
        refine takeH (i := 6) (d := (some 25)) (v := ?_) rfl rfl (by kernel_rfl) (by kernel_rfl) (by kernel_rfl) (fun _ _ _ h => h) (by kernel_rfl) ?_ (by assumption) ?_
        rotate_left
        · (intro w hSw; (try dsimp only at hSw); go_simp; try with_reducible rfl)
        try simp only [Act.put, List.setIfInBounds_toArray, List.set_cons_succ, List.set_cons_zero]
        refine takeH (i := 7) (d := (some 26)) (v := ?_) rfl rfl (by kernel_rfl) (by kernel_rfl) (by kernel_rfl) (fun _ _ _ h => h) (by kernel_rfl) ?_ (by assumption) ?_
        rotate_left
        · (intro w hSw; (try dsimp only at hSw); go_simp; try with_reducible rfl)
        try simp only [Act.put, List.setIfInBounds_toArray, List.set_cons_succ, List.set_cons_zero]
        refine skipH (i := 8) (d := (some 27)) rfl rfl (by kernel_rfl) (by kernel_rfl) (by kernel_rfl) (fun _ _ _ h => h) (by kernel_rfl) (by assumption) ?_
        try simp only [Act.put, List.setIfInBounds_toArray, List.set_cons_succ, List.set_cons_zero]
        refine skipH (i := 9) (d := (some 28)) rfl rfl (by kernel_rfl) (by kernel_rfl) (by kernel_rfl) (fun _ _ _ h => h) (by kernel_rfl) (by assumption) ?_
        try simp only [Act.put, List.setIfInBounds_toArray, List.set_cons_succ, List.set_cons_zero]
        refine skipH (i := 10) (d := (some 29)) rfl rfl (by kernel_rfl) (by kernel_rfl) (by kernel_rfl) (fun _ _ _ h => h) (by kernel_rfl) (by assumption) ?_
        try simp only [Act.put, List.setIfInBounds_toArray, List.set_cons_succ, List.set_cons_zero]
        refine skipH (i := 11) (d := (some 30)) rfl rfl (by kernel_rfl) (by kernel_rfl) (by kernel_rfl) (fun _ _ _ h => h) (by kernel_rfl) (by assumption) ?_
        try simp only [Act.put, List.setIfInBounds_toArray, List.set_cons_succ, List.set_cons_zero]
        refine skipH (i := 12) (d := (some 31)) rfl rfl (by kernel_rfl) (by kernel_rfl) (by kernel_rfl) (fun _ _ _ h => h) (by kernel_rfl) (by assumption) ?_
        try simp only [Act.put, List.setIfInBounds_toArray, List.set_cons_succ, List.set_cons_zero]
        refine skipH (i := 13) (d := (some 32)) rfl rfl (by kernel_rfl) (by kernel_rfl) (by kernel_rfl) (fun _ _ _ h => h) (by kernel_rfl) (by assumption) ?_
        try simp only [Act.put, List.setIfInBounds_toArray, List.set_cons_succ, List.set_cons_zero]
        refine skipH (i := 14) (d := (some 33)) rfl rfl (by kernel_rfl) (by kernel_rfl) (by kernel_rfl) (fun _ _ _ h => h) (by kernel_rfl) (by assumption) ?_
        try simp only [Act.put, List.setIfInBounds_toArray, List.set_cons_succ, List.set_cons_zero]
        refine skipH (i := 15) (d := (some 34)) rfl rfl (by kernel_rfl) (by kernel_rfl) (by kernel_rfl) (fun _ _ _ h => h) (by kernel_rfl) (by assumption) ?_
        try simp only [Act.put, List.setIfInBounds_toArray, List.set_cons_succ, List.set_cons_zero]
        refine skipH (i := 16) (d := (some 35)) rfl rfl (by kernel_rfl) (by kernel_rfl) (by kernel_rfl) (fun _ _ _ h => h) (by kernel_rfl) (by assumption) ?_
        try simp only [Act.put, List.setIfInBounds_toArray, List.set_cons_succ, List.set_cons_zero]
        refine takeH (i := 17) (d := (some 36)) (v := ?_) rfl rfl (by kernel_rfl) (by kernel_rfl) (by kernel_rfl) (fun _ _ _ h => h) (by kernel_rfl) ?_ (by assumption) ?_
        rotate_left
        · (intro w hSw; (try dsimp only at hSw); go_simp; try with_reducible rfl)
        try simp only [Act.put, List.setIfInBounds_toArray, List.set_cons_succ, List.set_cons_zero]
        refine wpAnyH_done (by kernel_rfl) ?_ _
        clear cz
        have hbd : Below wr.heap.size wr wr.drew := (Below.refl _ wr).drew
        have P0 : Hid (wr.drew.heap[w.heap.size]? = _) := P0.out
        have Q1 : Hid (wr.drew.heap[w.heap.size + 1]? = _) := Q1.out
        have Q2 : Hid (wr.drew.heap[w.heap.size + 1 + 1]? = _) := Q2.out
        have hG := gr_kept hG hbd
        have hB := hB.trans (hbd.mono hBz)
        have hin := rowIn_kept hin hbd
        have hBz : w.heap.size ≤ wr.drew.heap.size := hB.size
        have p0 : wr.drew.cell? ⟨w.heap.size, 1, none⟩ = _ := p0
        have c0 : wr.drew.cell? ⟨b, off + j * 7, none⟩ = _ := c0
        have c1 : wr.drew.cell? ⟨b, off + j * 7 + 1, none⟩ = _ := c1
        have c2 : wr.drew.cell? ⟨b, off + j * 7 + 2, none⟩ = _ := c2
        have c3 : wr.drew.cell? ⟨b, off + j * 7 + 3, none⟩ = _ := c3
        have c4 : wr.drew.cell? ⟨b, off + j * 7 + 4, none⟩ = _ := c4
        have c5 : wr.drew.cell? ⟨b, off + j * 7 + 5, none⟩ = _ := c5
        have c6 : wr.drew.cell? ⟨b, off + j * 7 + 6, none⟩ = _ := c6
        clear hHeld hbd
        generalize wr.drew = wx at *
        go_wp2_with fail
        have hO : w.heap.size + 1 + 1 < wx.heap.size := (Array.getElem?_eq_some_iff.1 Q2.out).1
        have hb1 : Below wx.heap.size wx wx.drew := (Below.refl _ wx).drew
        have hsz1 : wx.heap.size = wx.drew.heap.size := by simp
        have hcc := And.intro p0 (And.intro c0 (And.intro c1 (And.intro c2 (And.intro c3 (And.intro c4 (And.intro c5 c6))))))
        have HS : Hid (∀ w' : World, Below (w.heap.size + 1) wx.drew w' → (w'.cell? ⟨w.heap.size, 1, none⟩ = some (.slice (some ⟨b, off, none⟩) l.length cap) ∧ w'.cell? ⟨b, off + j * 7, none⟩ = some (.string (esAt l j).e.key) ∧ w'.cell? ⟨b, off + j * 7 + 1, none⟩ = some (.int .i64 (esAt l j).e.til) ∧ w'.cell? ⟨b, off + j * 7 + 2, none⟩ = some (.int .i64 (esAt l j).e.kind) ∧ w'.cell? ⟨b, off + j * 7 + 3, none⟩ = some (.string (esAt l j).e.text) ∧ w'.cell? ⟨b, off + j * 7 + 4, none⟩ = some (.slice (esAt l j).al (esAt l j).e.list.length (esAt l j).cl) ∧ w'.cell? ⟨b, off + j * 7 + 5, none⟩ = some (.slice (esAt l j).as_ (esAt l j).e.scores.length (esAt l j).cs) ∧ w'.cell? ⟨b, off + j * 7 + 6, none⟩ = some (.slice (esAt l j).af (esAt l j).e.fields.length (esAt l j).cf))) := fun w' h => ⟨(h.cell (p := ⟨w.heap.size, 1, none⟩) (by show w.heap.size < w.heap.size + 1; omega)).trans p0, (h.cell (p := ⟨b, off + j * 7, none⟩) (by show b < w.heap.size + 1; omega)).trans c0, (h.cell (p := ⟨b, off + j * 7 + 1, none⟩) (by show b < w.heap.size + 1; omega)).trans c1, (h.cell (p := ⟨b, off + j * 7 + 2, none⟩) (by show b < w.heap.size + 1; omega)).trans c2, (h.cell (p := ⟨b, off + j * 7 + 3, none⟩) (by show b < w.heap.size + 1; omega)).trans c3, (h.cell (p := ⟨b, off + j * 7 + 4, none⟩) (by show b < w.heap.size + 1; omega)).trans c4, (h.cell (p := ⟨b, off + j * 7 + 5, none⟩) (by show b < w.heap.size + 1; omega)).trans c5, (h.cell (p := ⟨b, off + j * 7 + 6, none⟩) (by show b < w.heap.size + 1; omega)).trans c6⟩
        have hin1 := rowIn_kept hin hb1
        have hG1 := gr_kept hG hb1
        have qO : wx.drew.heap[w.heap.size + 1 + 1]? = _ := Q2.out
        have qR : wx.drew.heap[w.heap.size + 1]? = _ := Q1.out
        have q0 : wx.drew.heap[w.heap.size]? = _ := P0.out
        have hB1 := hB.trans (hb1.mono hBz)
        have hzO : w.heap.size + 1 + 1 < wx.drew.heap.size := by rw [← hsz1]; exact hO
        have HB1 : Hid _ := hB1
        have QO : Hid _ := qO
        have QR : Hid _ := qR
        have Q0 : Hid _ := q0
        have HI : Hid _ := hin1
        have HG1 : Hid _ := hG1
        have o1 : wx.drew.cell? ⟨w.heap.size + 1 + 1, 1, none⟩ = some u := by rw [cell_of_row _ _ _ _ _ _ qO]; rfl
        clear hb1 hin1 hG1 qO qR q0 hB1 hin hG hB Q1 Q2 c0 c1 c2 c3 c4 c5 c6 hr p0 hcc P0 hsz1
        refine wp_region_held_drew (S := (fun w' => (w'.cell? ⟨w.heap.size, 1, none⟩ = some (.slice (some ⟨b, off, none⟩) l.length cap) ∧ w'.cell? ⟨b, off + j * 7, none⟩ = some (.string (esAt l j).e.key) ∧ w'.cell? ⟨b, off + j * 7 + 1, none⟩ = some (.int .i64 (esAt l j).e.til) ∧ w'.cell? ⟨b, off + j * 7 + 2, none⟩ = some (.int .i64 (esAt l j).e.kind) ∧ w'.cell? ⟨b, off + j * 7 + 3, none⟩ = some (.string (esAt l j).e.text) ∧ w'.cell? ⟨b, off + j * 7 + 4, none⟩ = some (.slice (esAt l j).al (esAt l j).e.list.length (esAt l j).cl) ∧ w'.cell? ⟨b, off + j * 7 + 5, none⟩ = some (.slice (esAt l j).as_ (esAt l j).e.scores.length (esAt l j).cs) ∧ w'.cell? ⟨b, off + j * 7 + 6, none⟩ = some (.slice (esAt l j).af (esAt l j).e.fields.length (esAt l j).cf)))) (by kernel_rfl) (by exact HS.out _ (Below.refl _ _)) (fun hHeld => ?_)
        generalize wx.drew = W1 at *
        refine takeH (i := 0) (d := (some 37)) (v := ?_) rfl rfl (by kernel_rfl) (by kernel_rfl) (by kernel_rfl) (fun _ _ _ h => h) (by kernel_rfl) ?_ (by assumption) ?_
        rotate_left
        · (intro w hSw; (try dsimp only at hSw); go_simp; try with_reducible rfl)
        try simp only [Act.put, List.setIfInBounds_toArray, List.set_cons_succ, List.set_cons_zero]
        refine takeH (i := 2) (d := (some 39)) (v := ?_) rfl rfl (by kernel_rfl) (by kernel_rfl) (by kernel_rfl) (fun _ _ _ h => h) (by kernel_rfl) ?_ (by assumption) ?_
        rotate_left
        · (intro w hSw; (try dsimp only at hSw); go_simp; try with_reducible rfl)
        try simp only [Act.put, List.setIfInBounds_toArray, List.set_cons_succ, List.set_cons_zero]
        refine takeH (i := 3) (d := (some 40)) (v := ?_) rfl rfl (by kernel_rfl) (by kernel_rfl) (by kernel_rfl) (fun _ _ _ h => h) (by kernel_rfl) ?_ (by assumption) ?_
        rotate_left
        · (intro w hSw; (try dsimp only at hSw); go_simp; try with_reducible rfl)
        try simp only [Act.put, List.setIfInBounds_toArray, List.set_cons_succ, List.set_cons_zero]
        refine takeH (i := 4) (d := (some 41)) (v := ?_) rfl rfl (by kernel_rfl) (by kernel_rfl) (by kernel_rfl) (fun _ _ _ h => h) (by kernel_rfl) ?_ (by assumption) ?_
        rotate_left
        · (intro w hSw; (try dsimp only at hSw); go_simp; try with_reducible rfl)
        try simp only [Act.put, List.setIfInBounds_toArray, List.set_cons_succ, List.set_cons_zero]
        refine takeH (i := 5) (d := (some 42)) (v := ?_) rfl rfl (by kernel_rfl) (by kernel_rfl) (by kernel_rfl) (fun _ _ _ h => h) (by kernel_rfl) ?_ (by assumption) ?_
        rotate_left
        · (intro w hSw; (try dsimp only at hSw); go_simp; try with_reducible rfl)
        try simp only [Act.put, List.setIfInBounds_toArray, List.set_cons_succ, List.set_cons_zero]
        refine takeH (i := 6) (d := (some 43)) (v := ?_) rfl rfl (by kernel_rfl) (by kernel_rfl) (by kernel_rfl) (fun _ _ _ h => h) (by kernel_rfl) ?_ (by assumption) ?_
        rotate_left
        · (intro w hSw; (try dsimp only at hSw); go_simp; try with_reducible rfl)
        try simp only [Act.put, List.setIfInBounds_toArray, List.set_cons_succ, List.set_cons_zero]
        refine wpAnyH_ready (rs := [1, 7]) (by kernel_rfl) (by simp) ?_
        refine AllReadyH.cons rfl (fun K hK => ?_) (AllReadyH.cons rfl (fun K hK => ?_) AllReadyH.nil)
        · go_simp
          refine hK.out _ _ ?_ (fun hHeld => ?_)
          · exact HS.out _ (Below.refl _ _)
          clear hK K
          (try simp only [Act.put]); (try simp only [List.setIfInBounds_toArray]); (try simp only [List.set_cons_succ]); (try simp only [List.set_cons_zero])
          refine wpAnyH_ready (rs := [7]) (by kernel_rfl) (by simp) ?_
          refine AllReadyH.cons rfl (fun K hK => ?_) AllReadyH.nil
          go_simp
          refine (l4Entry_any (esAt l j).e _ _ _ _ HI.out hsm).mono ?_; rintro x w2 ⟨⟨ul, us, uf, rfl, hox⟩, hb2⟩
          refine hK.out _ _ ?_ (fun hHeld => ?_)
          · exact HS.out _ (hb2.mono (by omega))
          clear hK K
          try simp only [Act.put, List.setIfInBounds_toArray, List.set_cons_succ, List.set_cons_zero]
          obtain ⟨al, cl, as_, cs, af, cf, rfl, rfl, rfl⟩ := enReads_shape (enOwn_reads hox)
          have hz2 := hb2.size
          have hbl : Below w2.heap.size w2 (w2.alloc (.cells #[.string (esAt l j).e.key, .int .i64 (esAt l j).e.til, .int .i64 (esAt l j).e.kind, .string (esAt l j).e.text, .slice al (esAt l j).e.list.length cl, .slice as_ (esAt l j).e.scores.length cs, .slice af (esAt l j).e.fields.length cf] 43)) := (Below.refl _ w2).alloc (Nat.le_refl _) _
          have QO3 : Hid ((w2.alloc (.cells #[.string (esAt l j).e.key, .int .i64 (esAt l j).e.til, .int .i64 (esAt l j).e.kind, .string (esAt l j).e.text, .slice al (esAt l j).e.list.length cl, .slice as_ (esAt l j).e.scores.length cs, .slice af (esAt l j).e.fields.length cf] 43)).heap[w.heap.size + 1 + 1]? = _) := (hbl.block _ (by omega)).trans ((hb2.block _ (by omega)).trans QO.out)
          have QR3 : Hid ((w2.alloc (.cells #[.string (esAt l j).e.key, .int .i64 (esAt l j).e.til, .int .i64 (esAt l j).e.kind, .string (esAt l j).e.text, .slice al (esAt l j).e.list.length cl, .slice as_ (esAt l j).e.scores.length cs, .slice af (esAt l j).e.fields.length cf] 43)).heap[w.heap.size + 1]? = _) := (hbl.block _ (by omega)).trans ((hb2.block _ (by omega)).trans QR.out)
          have HU3 : Hid _ := ownsR_kept (ownsR_kept HG1.out.rows hb2) hbl
          have HE3 : Hid _ := ensOwn_kept (ensOwn_kept HG1.out.ins hb2) hbl
          have HX3 : Hid _ := enOwn_kept hox hbl
          have hbb := (hb2.trans (hbl.mono hz2))
          have HB3 : Hid (Below w.heap.size w (w2.alloc (.cells #[.string (esAt l j).e.key, .int .i64 (esAt l j).e.til, .int .i64 (esAt l j).e.kind, .string (esAt l j).e.text, .slice al (esAt l j).e.list.length cl, .slice as_ (esAt l j).e.scores.length cs, .slice af (esAt l j).e.fields.length cf] 43))) := HB1.out.trans (hbb.mono HB1.out.size)
          have HC3 : Hid (Below (w.heap.size + 1) W1 (w2.alloc (.cells #[.string (esAt l j).e.key, .int .i64 (esAt l j).e.til, .int .i64 (esAt l j).e.kind, .string (esAt l j).e.text, .slice al (esAt l j).e.list.length cl, .slice as_ (esAt l j).e.scores.length cs, .slice af (esAt l j).e.fields.length cf] 43))) := hbb.mono (by omega)
          have hz3 : (w2.alloc (.cells #[.string (esAt l j).e.key, .int .i64 (esAt l j).e.til, .int .i64 (esAt l j).e.kind, .string (esAt l j).e.text, .slice al (esAt l j).e.list.length cl, .slice as_ (esAt l j).e.scores.length cs, .slice af (esAt l j).e.fields.length cf] 43)).heap.size = w2.heap.size + 1 := by simp
          have HZ3 : Hid _ := hz3
          have HZ2 : Hid _ := hz2
          clear hbl hz3 hz2 hox hb2 hbb
          refine wpAnyH_ready (rs := [8]) (by kernel_rfl) (by simp) ?_
          refine AllReadyH.cons rfl (fun K hK => ?_) AllReadyH.nil
          go_simp
          refine hK.out _ _ ?_ (fun hHeld => ?_)
          · exact HS.out _ HC3.out
          clear hK K
          try simp only [Act.put, List.setIfInBounds_toArray, List.set_cons_succ, List.set_cons_zero]
          refine wpAnyH_ready (rs := [9]) (by kernel_rfl) (by simp) ?_
          refine AllReadyH.cons rfl (fun K hK => ?_) AllReadyH.nil
          refine step_append_R (c := rowC) (d := some 46) rfl rfl (.tmp 38) (.tmp 45) 26 rfl (w.heap.size + 3) 43 i0 _ 7 120 Try.underlying26 hi0 hz0 hz1 hz2 rfl (by decide) _ _ _ rfl HU3.out _ rfl [(⟨(esAt l j).e, al, cl, as_, cs, af, cf⟩ : Row)] (row_one_at (heap_alloc_new w2 _)) rowC_len rowC_one (by unfold maxLen; simp; omega) (by simp; omega) (by have h1 := HZ3.out; have h2 := HZ2.out; omega) ?_; intro u4 w4 ho4 hg4; have HC4 : Hid (Below (w.heap.size + 1) W1 w4) := HC3.out.grown hg4 (by have := HC3.out.size; omega) (fun k hk => by have := World.ownsRow.lt HG1.out.rows k hk; omega)
          refine hK.out _ _ ?_ (fun hHeld => ?_)
          · exact HS.out _ HC4.out
          clear hK K
          (try simp only [Act.put]); (try simp only [List.setIfInBounds_toArray]); (try simp only [List.set_cons_succ]); (try simp only [List.set_cons_zero])
          have QO4 : Hid (w4.heap[w.heap.size + 1 + 1]? = _) := (hg4.block _ (Array.getElem?_eq_some_iff.1 QO3.out).1 (gr_ne HG1.out (.inl (by omega)))).trans QO3.out
          have QR4 : Hid (w4.heap[w.heap.size + 1]? = _) := (hg4.block _ (Array.getElem?_eq_some_iff.1 QR3.out).1 (gr_ne HG1.out (.inl (by omega)))).trans QR3.out
          have hgr := gr_add (x := (⟨(esAt l j).e, al, cl, as_, cs, af, cf⟩ : Row)) (w1 := w2) HU3.out HE3.out HX3.out (by rw [HZ3.out]; omega) (by simpa using ho4) hg4
          have hB4 : Below w.heap.size w w4 := HB3.out.grown hg4 HB3.out.size (fun k hk => by have := World.ownsRow.lt HG1.out.rows k hk; omega)
          obtain ⟨a4, c4, rfl⟩ := readsR_shape (gr_reads hgr).rows
          have HGR : Hid _ := hgr
          have HB4 : Hid _ := hB4
          have o4 : w4.cell? ⟨w.heap.size + 1 + 1, 1, none⟩ = some u := by rw [cell_of_row _ _ _ _ _ _ QO4.out]; rfl
          have f4 : ∀ o, w4.frozen? ⟨w.heap.size + 1 + 1, o, none⟩ = false := fun o => by simp [World.frozen?, QO4.out]
          clear hgr hB4 ho4 hg4
          refine takeH (i := 10) (d := (some 47)) (v := ?_) rfl rfl (by kernel_rfl) (by kernel_rfl) (by kernel_rfl) (fun _ _ _ h => h) (by kernel_rfl) ?_ (by assumption) ?_
          rotate_left
          · (intro w hSw; (try dsimp only at hSw); go_simp; try with_reducible rfl)
          try simp only [Act.put, List.setIfInBounds_toArray, List.set_cons_succ, List.set_cons_zero]
          refine wpAnyH_ready (rs := [11]) (by kernel_rfl) (by simp) ?_
          refine AllReadyH.cons rfl (fun K hK => ?_) AllReadyH.nil
          go_simp
          refine hK.out _ _ ?_ (fun hHeld => ?_)
          · exact HS.out _ (HC4.out.setCell (p := ⟨w.heap.size + 1 + 1, 1, none⟩) (by show w.heap.size + 1 ≤ w.heap.size + 1 + 1; omega) _)
          clear hK K
          try simp only [Act.put, List.setIfInBounds_toArray, List.set_cons_succ, List.set_cons_zero]
          refine wpAnyH_done (by kernel_rfl) ?_ _
          have R1 : Hid _ := gr_cell HGR.out ⟨w.heap.size + 1 + 1, 1, none⟩ (.slice a4 (ys ++ [(⟨(esAt l j).e, al, cl, as_, cs, af, cf⟩ : Row)]).length c4) (by show w.heap.size + 1 + 1 < _; omega)
          have R2 : Hid (Below w.heap.size w (w4.setCell ⟨w.heap.size + 1 + 1, 1, none⟩ (.slice a4 (ys ++ [(⟨(esAt l j).e, al, cl, as_, cs, af, cf⟩ : Row)]).length c4))) := HB4.out.setCell (p := ⟨w.heap.size + 1 + 1, 1, none⟩) (by show w.heap.size ≤ w.heap.size + 1 + 1; omega) _
          have R3 : Hid ((w4.setCell ⟨w.heap.size + 1 + 1, 1, none⟩ (.slice a4 (ys ++ [(⟨(esAt l j).e, al, cl, as_, cs, af, cf⟩ : Row)]).length c4)).heap[w.heap.size + 1 + 1]? = some (.cells #[.int .i64 (n + d), .slice a4 (ys ++ [(⟨(esAt l j).e, al, cl, as_, cs, af, cf⟩ : Row)]).length c4] 28 (0, 0))) := by
            show _ = _
            rw [heap_setCell_same _ (w.heap.size + 1 + 1) 1 _ _ _ QO4.out]; rfl
          have R4 : Hid ((w4.setCell ⟨w.heap.size + 1 + 1, 1, none⟩ (.slice a4 (ys ++ [(⟨(esAt l j).e, al, cl, as_, cs, af, cf⟩ : Row)]).length c4)).heap[w.heap.size + 1]? = _) := (Below.heap_setCell _ _ _ _ (by show w.heap.size + 1 ≠ w.heap.size + 1 + 1; omega)).trans QR4.out
          have QP4 : Hid (w4.heap[w.heap.size]? = _) := (HC4.out.block _ (by omega)).trans Q0.out
          have R7 : Hid ((w4.setCell ⟨w.heap.size + 1 + 1, 1, none⟩ (.slice a4 (ys ++ [(⟨(esAt l j).e, al, cl, as_, cs, af, cf⟩ : Row)]).length c4)).heap[w.heap.size]? = _) := (Below.heap_setCell _ _ _ _ (by show w.heap.size ≠ w.heap.size + 1 + 1; omega)).trans QP4.out
          have R5 : Hid ((ys ++ [(⟨(esAt l j).e, al, cl, as_, cs, af, cf⟩ : Row)]).map Row.e = ((l.take (j + 1)).map Row.e).filter (fun e => lastsB e (n + d))) := by
            show _ = _
            rw [List.map_append, HY.out, take_es hlt, List.map_append, List.filter_append]
            show _ ++ [(esAt l j).e] = _ ++ List.filter (fun e => lastsB e (n + d)) [(esAt l j).e]
            rw [List.filter_cons, if_pos HLT.out]; rfl
          have R6 : (ys ++ [(⟨(esAt l j).e, al, cl, as_, cs, af, cf⟩ : Row)]).length = ys.length + 1 := by rw [List.length_append]; rfl
          rw [R6] at R1 R2 R3 R4 R7
          clear o4 f4 R6
          go_wp2_with fail
          go_roundw
          case rel => exact ⟨j + 1, _, _, hlt, by go_num, R5, R3, R4, R7, R1.out, R2.out⟩
          case measure => simp [intOf]; omega
        · go_simp
          refine (l4Entry_any (esAt l j).e _ _ _ _ HI.out hsm).mono ?_
          rintro x w2 ⟨⟨ul, us, uf, rfl, hox⟩, hb2⟩
          refine hK.out _ _ ?_ (fun hHeld => ?_)
          · exact HS.out _ (hb2.mono (by omega))
          clear hK K
          (try simp only [Act.put]); (try simp only [List.setIfInBounds_toArray]); (try simp only [List.set_cons_succ]); (try simp only [List.set_cons_zero])
          have o2 : w2.cell? ⟨w.heap.size + 1 + 1, 1, none⟩ = some u := (hb2.cell (p := ⟨w.heap.size + 1 + 1, 1, none⟩) (by show w.heap.size + 1 + 1 < _; omega)).trans o1
          refine wpAnyH_ready (rs := [1, 8]) (by kernel_rfl) (by simp) ?_
          refine AllReadyH.cons rfl (fun K hK => ?_) (AllReadyH.cons rfl (fun K hK => ?_) AllReadyH.nil)
          · go_simp
            refine hK.out _ _ ?_ (fun hHeld => ?_)
            · exact hHeld
            clear hK K
            (try simp only [Act.put]); (try simp only [List.setIfInBounds_toArray]); (try simp only [List.set_cons_succ]); (try simp only [List.set_cons_zero])
            obtain ⟨al, cl, as_, cs, af, cf, rfl, rfl, rfl⟩ := enReads_shape (enOwn_reads hox)
            have hz2 := hb2.size
            have hbl : Below w2.heap.size w2 (w2.alloc (.cells #[.string (esAt l j).e.key, .int .i64 (esAt l j).e.til, .int .i64 (esAt l j).e.kind, .string (esAt l j).e.text, .slice al (esAt l j).e.list.length cl, .slice as_ (esAt l j).e.scores.length cs, .slice af (esAt l j).e.fields.length cf] 43)) := (Below.refl _ w2).alloc (Nat.le_refl _) _
            have QO3 : Hid ((w2.alloc (.cells #[.string (esAt l j).e.key, .int .i64 (esAt l j).e.til, .int .i64 (esAt l j).e.kind, .string (esAt l j).e.text, .slice al (esAt l j).e.list.length cl, .slice as_ (esAt l j).e.scores.length cs, .slice af (esAt l j).e.fields.length cf] 43)).heap[w.heap.size + 1 + 1]? = _) := (hbl.block _ (by omega)).trans ((hb2.block _ (by omega)).trans QO.out)
            have QR3 : Hid ((w2.alloc (.cells #[.string (esAt l j).e.key, .int .i64 (esAt l j).e.til, .int .i64 (esAt l j).e.kind, .string (esAt l j).e.text, .slice al (esAt l j).e.list.length cl, .slice as_ (esAt l j).e.scores.length cs, .slice af (esAt l j).e.fields.length cf] 43)).heap[w.heap.size + 1]? = _) := (hbl.block _ (by omega)).trans ((hb2.block _ (by omega)).trans QR.out)
            have HU3 : Hid _ := ownsR_kept (ownsR_kept HG1.out.rows hb2) hbl
            have HE3 : Hid _ := ensOwn_kept (ensOwn_kept HG1.out.ins hb2) hbl
            have HX3 : Hid _ := enOwn_kept hox hbl
            have hbb := (hb2.trans (hbl.mono hz2))
            have HB3 : Hid (Below w.heap.size w (w2.alloc (.cells #[.string (esAt l j).e.key, .int .i64 (esAt l j).e.til, .int .i64 (esAt l j).e.kind, .string (esAt l j).e.text, .slice al (esAt l j).e.list.length cl, .slice as_ (esAt l j).e.scores.length cs, .slice af (esAt l j).e.fields.length cf] 43))) := HB1.out.trans (hbb.mono HB1.out.size)
            have HC3 : Hid (Below (w.heap.size + 1) W1 (w2.alloc (.cells #[.string (esAt l j).e.key, .int .i64 (esAt l j).e.til, .int .i64 (esAt l j).e.kind, .string (esAt l j).e.text, .slice al (esAt l j).e.list.length cl, .slice as_ (esAt l j).e.scores.length cs, .slice af (esAt l j).e.fields.length cf] 43))) := hbb.mono (by omega)
            have hz3 : (w2.alloc (.cells #[.string (esAt l j).e.key, .int .i64 (esAt l j).e.til, .int .i64 (esAt l j).e.kind, .string (esAt l j).e.text, .slice al (esAt l j).e.list.length cl, .slice as_ (esAt l j).e.scores.length cs, .slice af (esAt l j).e.fields.length cf] 43)).heap.size = w2.heap.size + 1 := by simp
            have HZ3 : Hid _ := hz3
            have HZ2 : Hid _ := hz2
            clear hbl hz3 hz2 hox hb2 hbb
            refine wpAnyH_ready (rs := [8]) (by kernel_rfl) (by simp) ?_
            refine AllReadyH.cons rfl (fun K hK => ?_) AllReadyH.nil
            go_simp
            refine hK.out _ _ ?_ (fun hHeld => ?_)
            · exact HS.out _ HC3.out
            clear hK K
            try simp only [Act.put, List.setIfInBounds_toArray, List.set_cons_succ, List.set_cons_zero]
            refine wpAnyH_ready (rs := [9]) (by kernel_rfl) (by simp) ?_
            refine AllReadyH.cons rfl (fun K hK => ?_) AllReadyH.nil
            refine step_append_R (c := rowC) (d := some 46) rfl rfl (.tmp 38) (.tmp 45) 26 rfl (w.heap.size + 3) 43 i0 _ 7 120 Try.underlying26 hi0 hz0 hz1 hz2 rfl (by decide) _ _ _ rfl HU3.out _ rfl [(⟨(esAt l j).e, al, cl, as_, cs, af, cf⟩ : Row)] (row_one_at (heap_alloc_new w2 _)) rowC_len rowC_one (by unfold maxLen; simp; omega) (by simp; omega) (by have h1 := HZ3.out; have h2 := HZ2.out; omega) ?_; intro u4 w4 ho4 hg4; have HC4 : Hid (Below (w.heap.size + 1) W1 w4) := HC3.out.grown hg4 (by have := HC3.out.size; omega) (fun k hk => by have := World.ownsRow.lt HG1.out.rows k hk; omega)
            refine hK.out _ _ ?_ (fun hHeld => ?_)
            · exact HS.out _ HC4.out
            clear hK K
            (try simp only [Act.put]); (try simp only [List.setIfInBounds_toArray]); (try simp only [List.set_cons_succ]); (try simp only [List.set_cons_zero])
            have QO4 : Hid (w4.heap[w.heap.size + 1 + 1]? = _) := (hg4.block _ (Array.getElem?_eq_some_iff.1 QO3.out).1 (gr_ne HG1.out (.inl (by omega)))).trans QO3.out
            have QR4 : Hid (w4.heap[w.heap.size + 1]? = _) := (hg4.block _ (Array.getElem?_eq_some_iff.1 QR3.out).1 (gr_ne HG1.out (.inl (by omega)))).trans QR3.out
            have hgr := gr_add (x := (⟨(esAt l j).e, al, cl, as_, cs, af, cf⟩ : Row)) (w1 := w2) HU3.out HE3.out HX3.out (by rw [HZ3.out]; omega) (by simpa using ho4) hg4
            have hB4 : Below w.heap.size w w4 := HB3.out.grown hg4 HB3.out.size (fun k hk => by have := World.ownsRow.lt HG1.out.rows k hk; omega)
            obtain ⟨a4, c4, rfl⟩ := readsR_shape (gr_reads hgr).rows
            have HGR : Hid _ := hgr
            have HB4 : Hid _ := hB4
            have o4 : w4.cell? ⟨w.heap.size + 1 + 1, 1, none⟩ = some u := by rw [cell_of_row _ _ _ _ _ _ QO4.out]; rfl
            have f4 : ∀ o, w4.frozen? ⟨w.heap.size + 1 + 1, o, none⟩ = false := fun o => by simp [World.frozen?, QO4.out]
            clear hgr hB4 ho4 hg4
            refine takeH (i := 10) (d := (some 47)) (v := ?_) rfl rfl (by kernel_rfl) (by kernel_rfl) (by kernel_rfl) (fun _ _ _ h => h) (by kernel_rfl) ?_ (by assumption) ?_
            rotate_left
            · (intro w hSw; (try dsimp only at hSw); go_simp; try with_reducible rfl)
            try simp only [Act.put, List.setIfInBounds_toArray, List.set_cons_succ, List.set_cons_zero]
            refine wpAnyH_ready (rs := [11]) (by kernel_rfl) (by simp) ?_
            refine AllReadyH.cons rfl (fun K hK => ?_) AllReadyH.nil
            go_simp
            refine hK.out _ _ ?_ (fun hHeld => ?_)
            · exact HS.out _ (HC4.out.setCell (p := ⟨w.heap.size + 1 + 1, 1, none⟩) (by show w.heap.size + 1 ≤ w.heap.size + 1 + 1; omega) _)
            clear hK K
            try simp only [Act.put, List.setIfInBounds_toArray, List.set_cons_succ, List.set_cons_zero]
            refine wpAnyH_done (by kernel_rfl) ?_ _
            have R1 : Hid _ := gr_cell HGR.out ⟨w.heap.size + 1 + 1, 1, none⟩ (.slice a4 (ys ++ [(⟨(esAt l j).e, al, cl, as_, cs, af, cf⟩ : Row)]).length c4) (by show w.heap.size + 1 + 1 < _; omega)
            have R2 : Hid (Below w.heap.size w (w4.setCell ⟨w.heap.size + 1 + 1, 1, none⟩ (.slice a4 (ys ++ [(⟨(esAt l j).e, al, cl, as_, cs, af, cf⟩ : Row)]).length c4))) := HB4.out.setCell (p := ⟨w.heap.size + 1 + 1, 1, none⟩) (by show w.heap.size ≤ w.heap.size + 1 + 1; omega) _
            have R3 : Hid ((w4.setCell ⟨w.heap.size + 1 + 1, 1, none⟩ (.slice a4 (ys ++ [(⟨(esAt l j).e, al, cl, as_, cs, af, cf⟩ : Row)]).length c4)).heap[w.heap.size + 1 + 1]? = some (.cells #[.int .i64 (n + d), .slice a4 (ys ++ [(⟨(esAt l j).e, al, cl, as_, cs, af, cf⟩ : Row)]).length c4] 28 (0, 0))) := by
              show _ = _
              rw [heap_setCell_same _ (w.heap.size + 1 + 1) 1 _ _ _ QO4.out]; rfl
            have R4 : Hid ((w4.setCell ⟨w.heap.size + 1 + 1, 1, none⟩ (.slice a4 (ys ++ [(⟨(esAt l j).e, al, cl, as_, cs, af, cf⟩ : Row)]).length c4)).heap[w.heap.size + 1]? = _) := (Below.heap_setCell _ _ _ _ (by show w.heap.size + 1 ≠ w.heap.size + 1 + 1; omega)).trans QR4.out
            have QP4 : Hid (w4.heap[w.heap.size]? = _) := (HC4.out.block _ (by omega)).trans Q0.out
            have R7 : Hid ((w4.setCell ⟨w.heap.size + 1 + 1, 1, none⟩ (.slice a4 (ys ++ [(⟨(esAt l j).e, al, cl, as_, cs, af, cf⟩ : Row)]).length c4)).heap[w.heap.size]? = _) := (Below.heap_setCell _ _ _ _ (by show w.heap.size ≠ w.heap.size + 1 + 1; omega)).trans QP4.out
            have R5 : Hid ((ys ++ [(⟨(esAt l j).e, al, cl, as_, cs, af, cf⟩ : Row)]).map Row.e = ((l.take (j + 1)).map Row.e).filter (fun e => lastsB e (n + d))) := by
              show _ = _
              rw [List.map_append, HY.out, take_es hlt, List.map_append, List.filter_append]
              show _ ++ [(esAt l j).e] = _ ++ List.filter (fun e => lastsB e (n + d)) [(esAt l j).e]
              rw [List.filter_cons, if_pos HLT.out]; rfl
            have R6 : (ys ++ [(⟨(esAt l j).e, al, cl, as_, cs, af, cf⟩ : Row)]).length = ys.length + 1 := by rw [List.length_append]; rfl
            rw [R6] at R1 R2 R3 R4 R7
            clear o4 f4 R6
            go_wp2_with fail
            go_roundw
            case rel => exact ⟨j + 1, _, _, hlt, by go_num, R5, R3, R4, R7, R1.out, R2.out⟩
            case measure => simp [intOf]; omega
          · 
            obtain ⟨al, cl, as_, cs, af, cf, rfl, rfl, rfl⟩ := enReads_shape (enOwn_reads hox)
            have hz2 := hb2.size
            have hbl : Below w2.heap.size w2 (w2.alloc (.cells #[.string (esAt l j).e.key, .int .i64 (esAt l j).e.til, .int .i64 (esAt l j).e.kind, .string (esAt l j).e.text, .slice al (esAt l j).e.list.length cl, .slice as_ (esAt l j).e.scores.length cs, .slice af (esAt l j).e.fields.length cf] 43)) := (Below.refl _ w2).alloc (Nat.le_refl _) _
            have QO3 : Hid ((w2.alloc (.cells #[.string (esAt l j).e.key, .int .i64 (esAt l j).e.til, .int .i64 (esAt l j).e.kind, .string (esAt l j).e.text, .slice al (esAt l j).e.list.length cl, .slice as_ (esAt l j).e.scores.length cs, .slice af (esAt l j).e.fields.length cf] 43)).heap[w.heap.size + 1 + 1]? = _) := (hbl.block _ (by omega)).trans ((hb2.block _ (by omega)).trans QO.out)
            have QR3 : Hid ((w2.alloc (.cells #[.string (esAt l j).e.key, .int .i64 (esAt l j).e.til, .int .i64 (esAt l j).e.kind, .string (esAt l j).e.text, .slice al (esAt l j).e.list.length cl, .slice as_ (esAt l j).e.scores.length cs, .slice af (esAt l j).e.fields.length cf] 43)).heap[w.heap.size + 1]? = _) := (hbl.block _ (by omega)).trans ((hb2.block _ (by omega)).trans QR.out)
            have HU3 : Hid _ := ownsR_kept (ownsR_kept HG1.out.rows hb2) hbl
            have HE3 : Hid _ := ensOwn_kept (ensOwn_kept HG1.out.ins hb2) hbl
            have HX3 : Hid _ := enOwn_kept hox hbl
            have hbb := (hb2.trans (hbl.mono hz2))
            have HB3 : Hid (Below w.heap.size w (w2.alloc (.cells #[.string (esAt l j).e.key, .int .i64 (esAt l j).e.til, .int .i64 (esAt l j).e.kind, .string (esAt l j).e.text, .slice al (esAt l j).e.list.length cl, .slice as_ (esAt l j).e.scores.length cs, .slice af (esAt l j).e.fields.length cf] 43))) := HB1.out.trans (hbb.mono HB1.out.size)
            have HC3 : Hid (Below (w.heap.size + 1) W1 (w2.alloc (.cells #[.string (esAt l j).e.key, .int .i64 (esAt l j).e.til, .int .i64 (esAt l j).e.kind, .string (esAt l j).e.text, .slice al (esAt l j).e.list.length cl, .slice as_ (esAt l j).e.scores.length cs, .slice af (esAt l j).e.fields.length cf] 43))) := hbb.mono (by omega)
            have hz3 : (w2.alloc (.cells #[.string (esAt l j).e.key, .int .i64 (esAt l j).e.til, .int .i64 (esAt l j).e.kind, .string (esAt l j).e.text, .slice al (esAt l j).e.list.length cl, .slice as_ (esAt l j).e.scores.length cs, .slice af (esAt l j).e.fields.length cf] 43)).heap.size = w2.heap.size + 1 := by simp
            have HZ3 : Hid _ := hz3
            have HZ2 : Hid _ := hz2
            clear hbl hz3 hz2 hox hb2 hbb
            go_simp
            refine hK.out _ _ ?_ (fun hHeld => ?_)
            · exact HS.out _ HC3.out
            clear hK K
            (try simp only [Act.put]); (try simp only [List.setIfInBounds_toArray]); (try simp only [List.set_cons_succ]); (try simp only [List.set_cons_zero])
            have o3 : (w2.alloc (.cells #[.string (esAt l j).e.key, .int .i64 (esAt l j).e.til, .int .i64 (esAt l j).e.kind, .string (esAt l j).e.text, .slice al (esAt l j).e.list.length cl, .slice as_ (esAt l j).e.scores.length cs, .slice af (esAt l j).e.fields.length cf] 43)).cell? ⟨w.heap.size + 1 + 1, 1, none⟩ = some u := by rw [cell_of_row _ _ _ _ _ _ QO3.out]; rfl
            refine wpAnyH_ready (rs := [1]) (by kernel_rfl) (by simp) ?_
            refine AllReadyH.cons rfl (fun K hK => ?_) AllReadyH.nil
            go_simp
            refine hK.out _ _ ?_ (fun hHeld => ?_)
            · exact HS.out _ HC3.out
            clear hK K
            try simp only [Act.put, List.setIfInBounds_toArray, List.set_cons_succ, List.set_cons_zero]
            refine wpAnyH_ready (rs := [9]) (by kernel_rfl) (by simp) ?_
            refine AllReadyH.cons rfl (fun K hK => ?_) AllReadyH.nil
            refine step_append_R (c := rowC) (d := some 46) rfl rfl (.tmp 38) (.tmp 45) 26 rfl (w.heap.size + 3) 43 i0 _ 7 120 Try.underlying26 hi0 hz0 hz1 hz2 rfl (by decide) _ _ _ rfl HU3.out _ rfl [(⟨(esAt l j).e, al, cl, as_, cs, af, cf⟩ : Row)] (row_one_at (heap_alloc_new w2 _)) rowC_len rowC_one (by unfold maxLen; simp; omega) (by simp; omega) (by have h1 := HZ3.out; have h2 := HZ2.out; omega) ?_; intro u4 w4 ho4 hg4; have HC4 : Hid (Below (w.heap.size + 1) W1 w4) := HC3.out.grown hg4 (by have := HC3.out.size; omega) (fun k hk => by have := World.ownsRow.lt HG1.out.rows k hk; omega)
            refine hK.out _ _ ?_ (fun hHeld => ?_)
            · exact HS.out _ HC4.out
            clear hK K
            (try simp only [Act.put]); (try simp only [List.setIfInBounds_toArray]); (try simp only [List.set_cons_succ]); (try simp only [List.set_cons_zero])
            have QO4 : Hid (w4.heap[w.heap.size + 1 + 1]? = _) := (hg4.block _ (Array.getElem?_eq_some_iff.1 QO3.out).1 (gr_ne HG1.out (.inl (by omega)))).trans QO3.out
            have QR4 : Hid (w4.heap[w.heap.size + 1]? = _) := (hg4.block _ (Array.getElem?_eq_some_iff.1 QR3.out).1 (gr_ne HG1.out (.inl (by omega)))).trans QR3.out
            have hgr := gr_add (x := (⟨(esAt l j).e, al, cl, as_, cs, af, cf⟩ : Row)) (w1 := w2) HU3.out HE3.out HX3.out (by rw [HZ3.out]; omega) (by simpa using ho4) hg4
            have hB4 : Below w.heap.size w w4 := HB3.out.grown hg4 HB3.out.size (fun k hk => by have := World.ownsRow.lt HG1.out.rows k hk; omega)
            obtain ⟨a4, c4, rfl⟩ := readsR_shape (gr_reads hgr).rows
            have HGR : Hid _ := hgr
            have HB4 : Hid _ := hB4
            have o4 : w4.cell? ⟨w.heap.size + 1 + 1, 1, none⟩ = some u := by rw [cell_of_row _ _ _ _ _ _ QO4.out]; rfl
            have f4 : ∀ o, w4.frozen? ⟨w.heap.size + 1 + 1, o, none⟩ = false := fun o => by simp [World.frozen?, QO4.out]
            clear hgr hB4 ho4 hg4
            refine takeH (i := 10) (d := (some 47)) (v := ?_) rfl rfl (by kernel_rfl) (by kernel_rfl) (by kernel_rfl) (fun _ _ _ h => h) (by kernel_rfl) ?_ (by assumption) ?_
            rotate_left
            · (intro w hSw; (try dsimp only at hSw); go_simp; try with_reducible rfl)
            try simp only [Act.put, List.setIfInBounds_toArray, List.set_cons_succ, List.set_cons_zero]
            refine wpAnyH_ready (rs := [11]) (by kernel_rfl) (by simp) ?_
            refine AllReadyH.cons rfl (fun K hK => ?_) AllReadyH.nil
            go_simp
            refine hK.out _ _ ?_ (fun hHeld => ?_)
            · exact HS.out _ (HC4.out.setCell (p := ⟨w.heap.size + 1 + 1, 1, none⟩) (by show w.heap.size + 1 ≤ w.heap.size + 1 + 1; omega) _)
            clear hK K
            try simp only [Act.put, List.setIfInBounds_toArray, List.set_cons_succ, List.set_cons_zero]
            refine wpAnyH_done (by kernel_rfl) ?_ _
            have R1 : Hid _ := gr_cell HGR.out ⟨w.heap.size + 1 + 1, 1, none⟩ (.slice a4 (ys ++ [(⟨(esAt l j).e, al, cl, as_, cs, af, cf⟩ : Row)]).length c4) (by show w.heap.size + 1 + 1 < _; omega)
            have R2 : Hid (Below w.heap.size w (w4.setCell ⟨w.heap.size + 1 + 1, 1, none⟩ (.slice a4 (ys ++ [(⟨(esAt l j).e, al, cl, as_, cs, af, cf⟩ : Row)]).length c4))) := HB4.out.setCell (p := ⟨w.heap.size + 1 + 1, 1, none⟩) (by show w.heap.size ≤ w.heap.size + 1 + 1; omega) _
            have R3 : Hid ((w4.setCell ⟨w.heap.size + 1 + 1, 1, none⟩ (.slice a4 (ys ++ [(⟨(esAt l j).e, al, cl, as_, cs, af, cf⟩ : Row)]).length c4)).heap[w.heap.size + 1 + 1]? = some (.cells #[.int .i64 (n + d), .slice a4 (ys ++ [(⟨(esAt l j).e, al, cl, as_, cs, af, cf⟩ : Row)]).length c4] 28 (0, 0))) := by
              show _ = _
              rw [heap_setCell_same _ (w.heap.size + 1 + 1) 1 _ _ _ QO4.out]; rfl
            have R4 : Hid ((w4.setCell ⟨w.heap.size + 1 + 1, 1, none⟩ (.slice a4 (ys ++ [(⟨(esAt l j).e, al, cl, as_, cs, af, cf⟩ : Row)]).length c4)).heap[w.heap.size + 1]? = _) := (Below.heap_setCell _ _ _ _ (by show w.heap.size + 1 ≠ w.heap.size + 1 + 1; omega)).trans QR4.out
            have QP4 : Hid (w4.heap[w.heap.size]? = _) := (HC4.out.block _ (by omega)).trans Q0.out
            have R7 : Hid ((w4.setCell ⟨w.heap.size + 1 + 1, 1, none⟩ (.slice a4 (ys ++ [(⟨(esAt l j).e, al, cl, as_, cs, af, cf⟩ : Row)]).length c4)).heap[w.heap.size]? = _) := (Below.heap_setCell _ _ _ _ (by show w.heap.size ≠ w.heap.size + 1 + 1; omega)).trans QP4.out
            have R5 : Hid ((ys ++ [(⟨(esAt l j).e, al, cl, as_, cs, af, cf⟩ : Row)]).map Row.e = ((l.take (j + 1)).map Row.e).filter (fun e => lastsB e (n + d))) := by
              show _ = _
              rw [List.map_append, HY.out, take_es hlt, List.map_append, List.filter_append]
              show _ ++ [(esAt l j).e] = _ ++ List.filter (fun e => lastsB e (n + d)) [(esAt l j).e]
              rw [List.filter_cons, if_pos HLT.out]; rfl
            have R6 : (ys ++ [(⟨(esAt l j).e, al, cl, as_, cs, af, cf⟩ : Row)]).length = ys.length + 1 := by rw [List.length_append]; rfl
            rw [R6] at R1 R2 R3 R4 R7
            clear o4 f4 R6
            go_wp2_with fail
            go_roundw
            case rel => exact ⟨j + 1, _, _, hlt, by go_num, R5, R3, R4, R7, R1.out, R2.out⟩
            case measure => simp [intOf]; omega
      · have hq : ((esAt l j).e.til == 0) = false := by simpa using ht
        have hq2 : decide ((esAt l j).e.til = 0) = false := by simpa using ht
        by_cases hu : n + d < (esAt l j).e.til
        · have HLT : Hid (lastsB (esAt l j).e (n + d) = true) := by show _ = _; unfold lastsB; simp [hu]
          have hu2 : decide (n + d < (esAt l j).e.til) = true := by simpa using hu
          clear ht hu
          refine wp_region_held_drew (S := (fun w' => w'.cell? ⟨w.heap.size, 1, none⟩ = some (.slice (some ⟨b, off, none⟩) l.length cap) ∧ w'.cell? ⟨b, off + j * 7 + 1, none⟩ = some (.int .i64 (esAt l j).e.til) ∧ w'.cell? ⟨w.heap.size + 1 + 1, 0, none⟩ = some (.int .i64 (n + d)))) (by kernel_rfl) (by exact ⟨p0, c1, o0⟩) (fun hHeld => ?_)
          refine takeH (i := 0) (d := (some 19)) (v := ?_) rfl rfl (by kernel_rfl) (by kernel_rfl) (by kernel_rfl) (fun _ _ _ h => h) (by kernel_rfl) ?_ (by assumption) ?_
          rotate_left
          · (intro w hSw; (try dsimp only at hSw); go_simp; try with_reducible rfl)
          try simp only [Act.put, List.setIfInBounds_toArray, List.set_cons_succ, List.set_cons_zero]
          refine takeH (i := 1) (d := (some 20)) (v := ?_) rfl rfl (by kernel_rfl) (by kernel_rfl) (by kernel_rfl) (fun _ _ _ h => h) (by kernel_rfl) ?_ (by assumption) ?_
          rotate_left
          · (intro w hSw; (try dsimp only at hSw); go_simp; try with_reducible rfl)
          try simp only [Act.put, List.setIfInBounds_toArray, List.set_cons_succ, List.set_cons_zero]
          refine takeH (i := 2) (d := (some 21)) (v := ?_) rfl rfl (by kernel_rfl) (by kernel_rfl) (by kernel_rfl) (fun _ _ _ h => h) (by kernel_rfl) ?_ (by assumption) ?_
          rotate_left
          · (intro w hSw; (try dsimp only at hSw); go_simp; try with_reducible rfl)
          try simp only [Act.put, List.setIfInBounds_toArray, List.set_cons_succ, List.set_cons_zero]
          refine takeH (i := 3) (d := (some 22)) (v := ?_) rfl rfl (by kernel_rfl) (by kernel_rfl) (by kernel_rfl) (fun _ _ _ h => h) (by kernel_rfl) ?_ (by assumption) ?_
          rotate_left
          · (intro w hSw; (try dsimp only at hSw); go_simp; try with_reducible rfl)
          try simp only [Act.put, List.setIfInBounds_toArray, List.set_cons_succ, List.set_cons_zero]
          refine takeH (i := 4) (d := (some 23)) (v := ?_) rfl rfl (by kernel_rfl) (by kernel_rfl) (by kernel_rfl) (fun _ _ _ h => h) (by kernel_rfl) ?_ (by assumption) ?_
          rotate_left
          · (intro w hSw; (try dsimp only at hSw); go_simp; try with_reducible rfl)
          try simp only [Act.put, List.setIfInBounds_toArray, List.set_cons_succ, List.set_cons_zero]
          refine takeH (i := 5) (d := (some 24)) (v := ?_) rfl rfl (by kernel_rfl) (by kernel_rfl) (by kernel_rfl) (fun _ _ _ h => h) (by kernel_rfl) ?_ (by assumption) ?_
          rotate_left
          · (intro w hSw; (try dsimp only at hSw); go_simp; try with_reducible rfl)
          try simp only [Act.put, List.setIfInBounds_toArray, List.set_cons_succ, List.set_cons_zero]
          refine takeH (i := 6) (d := (some 25)) (v := ?_) rfl rfl (by kernel_rfl) (by kernel_rfl) (by kernel_rfl) (fun _ _ _ h => h) (by kernel_rfl) ?_ (by assumption) ?_
          rotate_left
          · (intro w hSw; (try dsimp only at hSw); go_simp; try with_reducible rfl)
          try simp only [Act.put, List.setIfInBounds_toArray, List.set_cons_succ, List.set_cons_zero]
          refine takeH (i := 7) (d := (some 26)) (v := ?_) rfl rfl (by kernel_rfl) (by kernel_rfl) (by kernel_rfl) (fun _ _ _ h => h) (by kernel_rfl) ?_ (by assumption) ?_
          rotate_left
          · (intro w hSw; (try dsimp only at hSw); go_simp; try with_reducible rfl)
          try simp only [Act.put, List.setIfInBounds_toArray, List.set_cons_succ, List.set_cons_zero]
          refine takeH (i := 8) (d := (some 27)) (v := ?_) rfl rfl (by kernel_rfl) (by kernel_rfl) (by kernel_rfl) (fun _ _ _ h => h) (by kernel_rfl) ?_ (by assumption) ?_
          rotate_left
          · (intro w hSw; (try dsimp only at hSw); go_simp; try with_reducible rfl)
          try simp only [Act.put, List.setIfInBounds_toArray, List.set_cons_succ, List.set_cons_zero]
          refine takeH (i := 9) (d := (some 28)) (v := ?_) rfl rfl (by kernel_rfl) (by kernel_rfl) (by kernel_rfl) (fun _ _ _ h => h) (by kernel_rfl) ?_ (by assumption) ?_
          rotate_left
          · (intro w hSw; (try dsimp only at hSw); go_simp; try with_reducible rfl)
          try simp only [Act.put, List.setIfInBounds_toArray, List.set_cons_succ, List.set_cons_zero]
          refine takeH (i := 10) (d := (some 29)) (v := ?_) rfl rfl (by kernel_rfl) (by kernel_rfl) (by kernel_rfl) (fun _ _ _ h => h) (by kernel_rfl) ?_ (by assumption) ?_
          rotate_left
          · (intro w hSw; (try dsimp only at hSw); go_simp; try with_reducible rfl)
          try simp only [Act.put, List.setIfInBounds_toArray, List.set_cons_succ, List.set_cons_zero]
          refine takeH (i := 11) (d := (some 30)) (v := ?_) rfl rfl (by kernel_rfl) (by kernel_rfl) (by kernel_rfl) (fun _ _ _ h => h) (by kernel_rfl) ?_ (by assumption) ?_
          rotate_left
          · (intro w hSw; (try dsimp only at hSw); go_simp; try with_reducible rfl)
          try simp only [Act.put, List.setIfInBounds_toArray, List.set_cons_succ, List.set_cons_zero]
          refine takeH (i := 12) (d := (some 31)) (v := ?_) rfl rfl (by kernel_rfl) (by kernel_rfl) (by kernel_rfl) (fun _ _ _ h => h) (by kernel_rfl) ?_ (by assumption) ?_
          rotate_left
          · (intro w hSw; (try dsimp only at hSw); go_simp; try with_reducible rfl)
          try simp only [Act.put, List.setIfInBounds_toArray, List.set_cons_succ, List.set_cons_zero]
          refine takeH (i := 13) (d := (some 32)) (v := ?_) rfl rfl (by kernel_rfl) (by kernel_rfl) (by kernel_rfl) (fun _ _ _ h => h) (by kernel_rfl) ?_ (by assumption) ?_
          rotate_left
          · (intro w hSw; (try dsimp only at hSw); go_simp; try with_reducible rfl)
          try simp only [Act.put, List.setIfInBounds_toArray, List.set_cons_succ, List.set_cons_zero]
          refine takeH (i := 14) (d := (some 33)) (v := ?_) rfl rfl (by kernel_rfl) (by kernel_rfl) (by kernel_rfl) (fun _ _ _ h => h) (by kernel_rfl) ?_ (by assumption) ?_
          rotate_left
          · (intro w hSw; (try dsimp only at hSw); go_simp; try with_reducible rfl)
          try simp only [Act.put, List.setIfInBounds_toArray, List.set_cons_succ, List.set_cons_zero]
          refine takeH (i := 15) (d := (some 34)) (v := ?_) rfl rfl (by kernel_rfl) (by kernel_rfl) (by kernel_rfl) (fun _ _ _ h => h) (by kernel_rfl) ?_ (by assumption) ?_
          rotate_left
          · (intro w hSw; (try dsimp only at hSw); go_simp; try with_reducible rfl)
          try simp only [Act.put, List.setIfInBounds_toArray, List.set_cons_succ, List.set_cons_zero]
          refine takeH (i := 16) (d := (some 35)) (v := ?_) rfl rfl (by kernel_rfl) (by kernel_rfl) (by kernel_rfl) (fun _ _ _ h => h) (by kernel_rfl) ?_ (by assumption) ?_
          rotate_left
          · (intro w hSw; (try dsimp only at hSw); go_simp; try with_reducible rfl)
          try simp only [Act.put, List.setIfInBounds_toArray, List.set_cons_succ, List.set_cons_zero]
          refine takeH (i := 17) (d := (some 36)) (v := ?_) rfl rfl (by kernel_rfl) (by kernel_rfl) (by kernel_rfl) (fun _ _ _ h => h) (by kernel_rfl) ?_ (by assumption) ?_
          rotate_left
          · (intro w hSw; (try dsimp only at hSw); go_simp; try with_reducible rfl)
          try simp only [Act.put, List.setIfInBounds_toArray, List.set_cons_succ, List.set_cons_zero]
          refine wpAnyH_done (by kernel_rfl) ?_ _
          clear hq hq2 hu2
          have hbd : Below wr.heap.size wr wr.drew := (Below.refl _ wr).drew
          have P0 : Hid (wr.drew.heap[w.heap.size]? = _) := P0.out
          have Q1 : Hid (wr.drew.heap[w.heap.size + 1]? = _) := Q1.out
          have Q2 : Hid (wr.drew.heap[w.heap.size + 1 + 1]? = _) := Q2.out
          have hG := gr_kept hG hbd
          have hB := hB.trans (hbd.mono hBz)
          have hin := rowIn_kept hin hbd
          have hBz : w.heap.size ≤ wr.drew.heap.size := hB.size
          have p0 : wr.drew.cell? ⟨w.heap.size, 1, none⟩ = _ := p0
          have c0 : wr.drew.cell? ⟨b, off + j * 7, none⟩ = _ := c0
          have c1 : wr.drew.cell? ⟨b, off + j * 7 + 1, none⟩ = _ := c1
          have c2 : wr.drew.cell? ⟨b, off + j * 7 + 2, none⟩ = _ := c2
          have c3 : wr.drew.cell? ⟨b, off + j * 7 + 3, none⟩ = _ := c3
          have c4 : wr.drew.cell? ⟨b, off + j * 7 + 4, none⟩ = _ := c4
          have c5 : wr.drew.cell? ⟨b, off + j * 7 + 5, none⟩ = _ := c5
          have c6 : wr.drew.cell? ⟨b, off + j * 7 + 6, none⟩ = _ := c6
          clear hHeld hbd
          generalize wr.drew = wx at *
          go_wp2_with fail
          have hO : w.heap.size + 1 + 1 < wx.heap.size := (Array.getElem?_eq_some_iff.1 Q2.out).1
          have hb1 : Below wx.heap.size wx wx.drew := (Below.refl _ wx).drew
          have hsz1 : wx.heap.size = wx.drew.heap.size := by simp
          have hcc := And.intro p0 (And.intro c0 (And.intro c1 (And.intro c2 (And.intro c3 (And.intro c4 (And.intro c5 c6))))))
          have HS : Hid (∀ w' : World, Below (w.heap.size + 1) wx.drew w' → (w'.cell? ⟨w.heap.size, 1, none⟩ = some (.slice (some ⟨b, off, none⟩) l.length cap) ∧ w'.cell? ⟨b, off + j * 7, none⟩ = some (.string (esAt l j).e.key) ∧ w'.cell? ⟨b, off + j * 7 + 1, none⟩ = some (.int .i64 (esAt l j).e.til) ∧ w'.cell? ⟨b, off + j * 7 + 2, none⟩ = some (.int .i64 (esAt l j).e.kind) ∧ w'.cell? ⟨b, off + j * 7 + 3, none⟩ = some (.string (esAt l j).e.text) ∧ w'.cell? ⟨b, off + j * 7 + 4, none⟩ = some (.slice (esAt l j).al (esAt l j).e.list.length (esAt l j).cl) ∧ w'.cell? ⟨b, off + j * 7 + 5, none⟩ = some (.slice (esAt l j).as_ (esAt l j).e.scores.length (esAt l j).cs) ∧ w'.cell? ⟨b, off + j * 7 + 6, none⟩ = some (.slice (esAt l j).af (esAt l j).e.fields.length (esAt l j).cf))) := fun w' h => ⟨(h.cell (p := ⟨w.heap.size, 1, none⟩) (by show w.heap.size < w.heap.size + 1; omega)).trans p0, (h.cell (p := ⟨b, off + j * 7, none⟩) (by show b < w.heap.size + 1; omega)).trans c0, (h.cell (p := ⟨b, off + j * 7 + 1, none⟩) (by show b < w.heap.size + 1; omega)).trans c1, (h.cell (p := ⟨b, off + j * 7 + 2, none⟩) (by show b < w.heap.size + 1; omega)).trans c2, (h.cell (p := ⟨b, off + j * 7 + 3, none⟩) (by show b < w.heap.size + 1; omega)).trans c3, (h.cell (p := ⟨b, off + j * 7 + 4, none⟩) (by show b < w.heap.size + 1; omega)).trans c4, (h.cell (p := ⟨b, off + j * 7 + 5, none⟩) (by show b < w.heap.size + 1; omega)).trans c5, (h.cell (p := ⟨b, off + j * 7 + 6, none⟩) (by show b < w.heap.size + 1; omega)).trans c6⟩
          have hin1 := rowIn_kept hin hb1
          have hG1 := gr_kept hG hb1
          have qO : wx.drew.heap[w.heap.size + 1 + 1]? = _ := Q2.out
          have qR : wx.drew.heap[w.heap.size + 1]? = _ := Q1.out
          have q0 : wx.drew.heap[w.heap.size]? = _ := P0.out
          have hB1 := hB.trans (hb1.mono hBz)
          have hzO : w.heap.size + 1 + 1 < wx.drew.heap.size := by rw [← hsz1]; exact hO
          have HB1 : Hid _ := hB1
          have QO : Hid _ := qO
          have QR : Hid _ := qR
          have Q0 : Hid _ := q0
          have HI : Hid _ := hin1
          have HG1 : Hid _ := hG1
          have o1 : wx.drew.cell? ⟨w.heap.size + 1 + 1, 1, none⟩ = some u := by rw [cell_of_row _ _ _ _ _ _ qO]; rfl
          clear hb1 hin1 hG1 qO qR q0 hB1 hin hG hB Q1 Q2 c0 c1 c2 c3 c4 c5 c6 hr p0 hcc P0 hsz1
          refine wp_region_held_drew (S := (fun w' => (w'.cell? ⟨w.heap.size, 1, none⟩ = some (.slice (some ⟨b, off, none⟩) l.length cap) ∧ w'.cell? ⟨b, off + j * 7, none⟩ = some (.string (esAt l j).e.key) ∧ w'.cell? ⟨b, off + j * 7 + 1, none⟩ = some (.int .i64 (esAt l j).e.til) ∧ w'.cell? ⟨b, off + j * 7 + 2, none⟩ = some (.int .i64 (esAt l j).e.kind) ∧ w'.cell? ⟨b, off + j * 7 + 3, none⟩ = some (.string (esAt l j).e.text) ∧ w'.cell? ⟨b, off + j * 7 + 4, none⟩ = some (.slice (esAt l j).al (esAt l j).e.list.length (esAt l j).cl) ∧ w'.cell? ⟨b, off + j * 7 + 5, none⟩ = some (.slice (esAt l j).as_ (esAt l j).e.scores.length (esAt l j).cs) ∧ w'.cell? ⟨b, off + j * 7 + 6, none⟩ = some (.slice (esAt l j).af (esAt l j).e.fields.length (esAt l j).cf)))) (by kernel_rfl) (by exact HS.out _ (Below.refl _ _)) (fun hHeld => ?_)
          generalize wx.drew = W1 at *
          refine takeH (i := 0) (d := (some 37)) (v := ?_) rfl rfl (by kernel_rfl) (by kernel_rfl) (by kernel_rfl) (fun _ _ _ h => h) (by kernel_rfl) ?_ (by assumption) ?_
          rotate_left
          · (intro w hSw; (try dsimp only at hSw); go_simp; try with_reducible rfl)
          try simp only [Act.put, List.setIfInBounds_toArray, List.set_cons_succ, List.set_cons_zero]
          refine takeH (i := 2) (d := (some 39)) (v := ?_) rfl rfl (by kernel_rfl) (by kernel_rfl) (by kernel_rfl) (fun _ _ _ h => h) (by kernel_rfl) ?_ (by assumption) ?_
          rotate_left
          · (intro w hSw; (try dsimp only at hSw); go_simp; try with_reducible rfl)
          try simp only [Act.put, List.setIfInBounds_toArray, List.set_cons_succ, List.set_cons_zero]
          refine takeH (i := 3) (d := (some 40)) (v := ?_) rfl rfl (by kernel_rfl) (by kernel_rfl) (by kernel_rfl) (fun _ _ _ h => h) (by kernel_rfl) ?_ (by assumption) ?_
          rotate_left
          · (intro w hSw; (try dsimp only at hSw); go_simp; try with_reducible rfl)
          try simp only [Act.put, List.setIfInBounds_toArray, List.set_cons_succ, List.set_cons_zero]
          refine takeH (i := 4) (d := (some 41)) (v := ?_) rfl rfl (by kernel_rfl) (by kernel_rfl) (by kernel_rfl) (fun _ _ _ h => h) (by kernel_rfl) ?_ (by assumption) ?_
          rotate_left
          · (intro w hSw; (try dsimp only at hSw); go_simp; try with_reducible rfl)
          try simp only [Act.put, List.setIfInBounds_toArray, List.set_cons_succ, List.set_cons_zero]
          refine takeH (i := 5) (d := (some 42)) (v := ?_) rfl rfl (by kernel_rfl) (by kernel_rfl) (by kernel_rfl) (fun _ _ _ h => h) (by kernel_rfl) ?_ (by assumption) ?_
          rotate_left
          · (intro w hSw; (try dsimp only at hSw); go_simp; try with_reducible rfl)
          try simp only [Act.put, List.setIfInBounds_toArray, List.set_cons_succ, List.set_cons_zero]
          refine takeH (i := 6) (d := (some 43)) (v := ?_) rfl rfl (by kernel_rfl) (by kernel_rfl) (by kernel_rfl) (fun _ _ _ h => h) (by kernel_rfl) ?_ (by assumption) ?_
          rotate_left
          · (intro w hSw; (try dsimp only at hSw); go_simp; try with_reducible rfl)
          try simp only [Act.put, List.setIfInBounds_toArray, List.set_cons_succ, List.set_cons_zero]
          refine wpAnyH_ready (rs := [1, 7]) (by kernel_rfl) (by simp) ?_
          refine AllReadyH.cons rfl (fun K hK => ?_) (AllReadyH.cons rfl (fun K hK => ?_) AllReadyH.nil)
          · go_simp
            refine hK.out _ _ ?_ (fun hHeld => ?_)
            · exact HS.out _ (Below.refl _ _)
            clear hK K
            (try simp only [Act.put]); (try simp only [List.setIfInBounds_toArray]); (try simp only [List.set_cons_succ]); (try simp only [List.set_cons_zero])
            refine wpAnyH_ready (rs := [7]) (by kernel_rfl) (by simp) ?_
            refine AllReadyH.cons rfl (fun K hK => ?_) AllReadyH.nil
            go_simp
            refine (l4Entry_any (esAt l j).e _ _ _ _ HI.out hsm).mono ?_; rintro x w2 ⟨⟨ul, us, uf, rfl, hox⟩, hb2⟩
            refine hK.out _ _ ?_ (fun hHeld => ?_)
            · exact HS.out _ (hb2.mono (by omega))
            clear hK K
            try simp only [Act.put, List.setIfInBounds_toArray, List.set_cons_succ, List.set_cons_zero]
            obtain ⟨al, cl, as_, cs, af, cf, rfl, rfl, rfl⟩ := enReads_shape (enOwn_reads hox)
            have hz2 := hb2.size
            have hbl : Below w2.heap.size w2 (w2.alloc (.cells #[.string (esAt l j).e.key, .int .i64 (esAt l j).e.til, .int .i64 (esAt l j).e.kind, .string (esAt l j).e.text, .slice al (esAt l j).e.list.length cl, .slice as_ (esAt l j).e.scores.length cs, .slice af (esAt l j).e.fields.length cf] 43)) := (Below.refl _ w2).alloc (Nat.le_refl _) _
            have QO3 : Hid ((w2.alloc (.cells #[.string (esAt l j).e.key, .int .i64 (esAt l j).e.til, .int .i64 (esAt l j).e.kind, .string (esAt l j).e.text, .slice al (esAt l j).e.list.length cl, .slice as_ (esAt l j).e.scores.length cs, .slice af (esAt l j).e.fields.length cf] 43)).heap[w.heap.size + 1 + 1]? = _) := (hbl.block _ (by omega)).trans ((hb2.block _ (by omega)).trans QO.out)
            have QR3 : Hid ((w2.alloc (.cells #[.string (esAt l j).e.key, .int .i64 (esAt l j).e.til, .int .i64 (esAt l j).e.kind, .string (esAt l j).e.text, .slice al (esAt l j).e.list.length cl, .slice as_ (esAt l j).e.scores.length cs, .slice af (esAt l j).e.fields.length cf] 43)).heap[w.heap.size + 1]? = _) := (hbl.block _ (by omega)).trans ((hb2.block _ (by omega)).trans QR.out)
            have HU3 : Hid _ := ownsR_kept (ownsR_kept HG1.out.rows hb2) hbl
            have HE3 : Hid _ := ensOwn_kept (ensOwn_kept HG1.out.ins hb2) hbl
            have HX3 : Hid _ := enOwn_kept hox hbl
            have hbb := (hb2.trans (hbl.mono hz2))
            have HB3 : Hid (Below w.heap.size w (w2.alloc (.cells #[.string (esAt l j).e.key, .int .i64 (esAt l j).e.til, .int .i64 (esAt l j).e.kind, .string (esAt l j).e.text, .slice al (esAt l j).e.list.length cl, .slice as_ (esAt l j).e.scores.length cs, .slice af (esAt l j).e.fields.length cf] 43))) := HB1.out.trans (hbb.mono HB1.out.size)
            have HC3 : Hid (Below (w.heap.size + 1) W1 (w2.alloc (.cells #[.string (esAt l j).e.key, .int .i64 (esAt l j).e.til, .int .i64 (esAt l j).e.kind, .string (esAt l j).e.text, .slice al (esAt l j).e.list.length cl, .slice as_ (esAt l j).e.scores.length cs, .slice af (esAt l j).e.fields.length cf] 43))) := hbb.mono (by omega)
            have hz3 : (w2.alloc (.cells #[.string (esAt l j).e.key, .int .i64 (esAt l j).e.til, .int .i64 (esAt l j).e.kind, .string (esAt l j).e.text, .slice al (esAt l j).e.list.length cl, .slice as_ (esAt l j).e.scores.length cs, .slice af (esAt l j).e.fields.length cf] 43)).heap.size = w2.heap.size + 1 := by simp
            have HZ3 : Hid _ := hz3
            have HZ2 : Hid _ := hz2
            clear hbl hz3 hz2 hox hb2 hbb
            refine wpAnyH_ready (rs := [8]) (by kernel_rfl) (by simp) ?_
            refine AllReadyH.cons rfl (fun K hK => ?_) AllReadyH.nil
            go_simp
            refine hK.out _ _ ?_ (fun hHeld => ?_)
            · exact HS.out _ HC3.out
            clear hK K
            try simp only [Act.put, List.setIfInBounds_toArray, List.set_cons_succ, List.set_cons_zero]
            refine wpAnyH_ready (rs := [9]) (by kernel_rfl) (by simp) ?_
            refine AllReadyH.cons rfl (fun K hK => ?_) AllReadyH.nil
            refine step_append_R (c := rowC) (d := some 46) rfl rfl (.tmp 38) (.tmp 45) 26 rfl (w.heap.size + 3) 43 i0 _ 7 120 Try.underlying26 hi0 hz0 hz1 hz2 rfl (by decide) _ _ _ rfl HU3.out _ rfl [(⟨(esAt l j).e, al, cl, as_, cs, af, cf⟩ : Row)] (row_one_at (heap_alloc_new w2 _)) rowC_len rowC_one (by unfold maxLen; simp; omega) (by simp; omega) (by have h1 := HZ3.out; have h2 := HZ2.out; omega) ?_; intro u4 w4 ho4 hg4; have HC4 : Hid (Below (w.heap.size + 1) W1 w4) := HC3.out.grown hg4 (by have := HC3.out.size; omega) (fun k hk => by have := World.ownsRow.lt HG1.out.rows k hk; omega)
            refine hK.out _ _ ?_ (fun hHeld => ?_)
            · exact HS.out _ HC4.out
            clear hK K
            (try simp only [Act.put]); (try simp only [List.setIfInBounds_toArray]); (try simp only [List.set_cons_succ]); (try simp only [List.set_cons_zero])
            have QO4 : Hid (w4.heap[w.heap.size + 1 + 1]? = _) := (hg4.block _ (Array.getElem?_eq_some_iff.1 QO3.out).1 (gr_ne HG1.out (.inl (by omega)))).trans QO3.out
            have QR4 : Hid (w4.heap[w.heap.size + 1]? = _) := (hg4.block _ (Array.getElem?_eq_some_iff.1 QR3.out).1 (gr_ne HG1.out (.inl (by omega)))).trans QR3.out
            have hgr := gr_add (x := (⟨(esAt l j).e, al, cl, as_, cs, af, cf⟩ : Row)) (w1 := w2) HU3.out HE3.out HX3.out (by rw [HZ3.out]; omega) (by simpa using ho4) hg4
            have hB4 : Below w.heap.size w w4 := HB3.out.grown hg4 HB3.out.size (fun k hk => by have := World.ownsRow.lt HG1.out.rows k hk; omega)
            obtain ⟨a4, c4, rfl⟩ := readsR_shape (gr_reads hgr).rows
            have HGR : Hid _ := hgr
            have HB4 : Hid _ := hB4
            have o4 : w4.cell? ⟨w.heap.size + 1 + 1, 1, none⟩ = some u := by rw [cell_of_row _ _ _ _ _ _ QO4.out]; rfl
            have f4 : ∀ o, w4.frozen? ⟨w.heap.size + 1 + 1, o, none⟩ = false := fun o => by simp [World.frozen?, QO4.out]
            clear hgr hB4 ho4 hg4
            refine takeH (i := 10) (d := (some 47)) (v := ?_) rfl rfl (by kernel_rfl) (by kernel_rfl) (by kernel_rfl) (fun _ _ _ h => h) (by kernel_rfl) ?_ (by assumption) ?_
            rotate_left
            · (intro w hSw; (try dsimp only at hSw); go_simp; try with_reducible rfl)
            try simp only [Act.put, List.setIfInBounds_toArray, List.set_cons_succ, List.set_cons_zero]
            refine wpAnyH_ready (rs := [11]) (by kernel_rfl) (by simp) ?_
            refine AllReadyH.cons rfl (fun K hK => ?_) AllReadyH.nil
            go_simp
            refine hK.out _ _ ?_ (fun hHeld => ?_)
            · exact HS.out _ (HC4.out.setCell (p := ⟨w.heap.size + 1 + 1, 1, none⟩) (by show w.heap.size + 1 ≤ w.heap.size + 1 + 1; omega) _)
            clear hK K
            try simp only [Act.put, List.setIfInBounds_toArray, List.set_cons_succ, List.set_cons_zero]
            refine wpAnyH_done (by kernel_rfl) ?_ _
            have R1 : Hid _ := gr_cell HGR.out ⟨w.heap.size + 1 + 1, 1, none⟩ (.slice a4 (ys ++ [(⟨(esAt l j).e, al, cl, as_, cs, af, cf⟩ : Row)]).length c4) (by show w.heap.size + 1 + 1 < _; omega)
            have R2 : Hid (Below w.heap.size w (w4.setCell ⟨w.heap.size + 1 + 1, 1, none⟩ (.slice a4 (ys ++ [(⟨(esAt l j).e, al, cl, as_, cs, af, cf⟩ : Row)]).length c4))) := HB4.out.setCell (p := ⟨w.heap.size + 1 + 1, 1, none⟩) (by show w.heap.size ≤ w.heap.size + 1 + 1; omega) _
            have R3 : Hid ((w4.setCell ⟨w.heap.size + 1 + 1, 1, none⟩ (.slice a4 (ys ++ [(⟨(esAt l j).e, al, cl, as_, cs, af, cf⟩ : Row)]).length c4)).heap[w.heap.size + 1 + 1]? = some (.cells #[.int .i64 (n + d), .slice a4 (ys ++ [(⟨(esAt l j).e, al, cl, as_, cs, af, cf⟩ : Row)]).length c4] 28 (0, 0))) := by
              show _ = _
              rw [heap_setCell_same _ (w.heap.size + 1 + 1) 1 _ _ _ QO4.out]; rfl
            have R4 : Hid ((w4.setCell ⟨w.heap.size + 1 + 1, 1, none⟩ (.slice a4 (ys ++ [(⟨(esAt l j).e, al, cl, as_, cs, af, cf⟩ : Row)]).length c4)).heap[w.heap.size + 1]? = _) := (Below.heap_setCell _ _ _ _ (by show w.heap.size + 1 ≠ w.heap.size + 1 + 1; omega)).trans QR4.out
            have QP4 : Hid (w4.heap[w.heap.size]? = _) := (HC4.out.block _ (by omega)).trans Q0.out
            have R7 : Hid ((w4.setCell ⟨w.heap.size + 1 + 1, 1, none⟩ (.slice a4 (ys ++ [(⟨(esAt l j).e, al, cl, as_, cs, af, cf⟩ : Row)]).length c4)).heap[w.heap.size]? = _) := (Below.heap_setCell _ _ _ _ (by show w.heap.size ≠ w.heap.size + 1 + 1; omega)).trans QP4.out
            have R5 : Hid ((ys ++ [(⟨(esAt l j).e, al, cl, as_, cs, af, cf⟩ : Row)]).map Row.e = ((l.take (j + 1)).map Row.e).filter (fun e => lastsB e (n + d))) := by
              show _ = _
              rw [List.map_append, HY.out, take_es hlt, List.map_append, List.filter_append]
              show _ ++ [(esAt l j).e] = _ ++ List.filter (fun e => lastsB e (n + d)) [(esAt l j).e]
              rw [List.filter_cons, if_pos HLT.out]; rfl
            have R6 : (ys ++ [(⟨(esAt l j).e, al, cl, as_, cs, af, cf⟩ : Row)]).length = ys.length + 1 := by rw [List.length_append]; rfl
            rw [R6] at R1 R2 R3 R4 R7
            clear o4 f4 R6
            go_wp2_with fail
            go_roundw
            case rel => exact ⟨j + 1, _, _, hlt, by go_num, R5, R3, R4, R7, R1.out, R2.out⟩
            case measure => simp [intOf]; omega
          · go_simp
            refine (l4Entry_any (esAt l j).e _ _ _ _ HI.out hsm).mono ?_
            rintro x w2 ⟨⟨ul, us, uf, rfl, hox⟩, hb2⟩
            refine hK.out _ _ ?_ (fun hHeld => ?_)
            · exact HS.out _ (hb2.mono (by omega))
            clear hK K
            (try simp only [Act.put]); (try simp only [List.setIfInBounds_toArray]); (try simp only [List.set_cons_succ]); (try simp only [List.set_cons_zero])
            have o2 : w2.cell? ⟨w.heap.size + 1 + 1, 1, none⟩ = some u := (hb2.cell (p := ⟨w.heap.size + 1 + 1, 1, none⟩) (by show w.heap.size + 1 + 1 < _; omega)).trans o1
            refine wpAnyH_ready (rs := [1, 8]) (by kernel_rfl) (by simp) ?_
            refine AllReadyH.cons rfl (fun K hK => ?_) (AllReadyH.cons rfl (fun K hK => ?_) AllReadyH.nil)
            · go_simp
              refine hK.out _ _ ?_ (fun hHeld => ?_)
              · exact hHeld
              clear hK K
              (try simp only [Act.put]); (try simp only [List.setIfInBounds_toArray]); (try simp only [List.set_cons_succ]); (try simp only [List.set_cons_zero])
              obtain ⟨al, cl, as_, cs, af, cf, rfl, rfl, rfl⟩ := enReads_shape (enOwn_reads hox)
              have hz2 := hb2.size
              have hbl : Below w2.heap.size w2 (w2.alloc (.cells #[.string (esAt l j).e.key, .int .i64 (esAt l j).e.til, .int .i64 (esAt l j).e.kind, .string (esAt l j).e.text, .slice al (esAt l j).e.list.length cl, .slice as_ (esAt l j).e.scores.length cs, .slice af (esAt l j).e.fields.length cf] 43)) := (Below.refl _ w2).alloc (Nat.le_refl _) _
              have QO3 : Hid ((w2.alloc (.cells #[.string (esAt l j).e.key, .int .i64 (esAt l j).e.til, .int .i64 (esAt l j).e.kind, .string (esAt l j).e.text, .slice al (esAt l j).e.list.length cl, .slice as_ (esAt l j).e.scores.length cs, .slice af (esAt l j).e.fields.length cf] 43)).heap[w.heap.size + 1 + 1]? = _) := (hbl.block _ (by omega)).trans ((hb2.block _ (by omega)).trans QO.out)
              have QR3 : Hid ((w2.alloc (.cells #[.string (esAt l j).e.key, .int .i64 (esAt l j).e.til, .int .i64 (esAt l j).e.kind, .string (esAt l j).e.text, .slice al (esAt l j).e.list.length cl, .slice as_ (esAt l j).e.scores.length cs, .slice af (esAt l j).e.fields.length cf] 43)).heap[w.heap.size + 1]? = _) := (hbl.block _ (by omega)).trans ((hb2.block _ (by omega)).trans QR.out)
              have HU3 : Hid _ := ownsR_kept (ownsR_kept HG1.out.rows hb2) hbl
              have HE3 : Hid _ := ensOwn_kept (ensOwn_kept HG1.out.ins hb2) hbl
              have HX3 : Hid _ := enOwn_kept hox hbl
              have hbb := (hb2.trans (hbl.mono hz2))
              have HB3 : Hid (Below w.heap.size w (w2.alloc (.cells #[.string (esAt l j).e.key, .int .i64 (esAt l j).e.til, .int .i64 (esAt l j).e.kind, .string (esAt l j).e.text, .slice al (esAt l j).e.list.length cl, .slice as_ (esAt l j).e.scores.length cs, .slice af (esAt l j).e.fields.length cf] 43))) := HB1.out.trans (hbb.mono HB1.out.size)
              have HC3 : Hid (Below (w.heap.size + 1) W1 (w2.alloc (.cells #[.string (esAt l j).e.key, .int .i64 (esAt l j).e.til, .int .i64 (esAt l j).e.kind, .string (esAt l j).e.text, .slice al (esAt l j).e.list.length cl, .slice as_ (esAt l j).e.scores.length cs, .slice af (esAt l j).e.fields.length cf] 43))) := hbb.mono (by omega)
              have hz3 : (w2.alloc (.cells #[.string (esAt l j).e.key, .int .i64 (esAt l j).e.til, .int .i64 (esAt l j).e.kind, .string (esAt l j).e.text, .slice al (esAt l j).e.list.length cl, .slice as_ (esAt l j).e.scores.length cs, .slice af (esAt l j).e.fields.length cf] 43)).heap.size = w2.heap.size + 1 := by simp
              have HZ3 : Hid _ := hz3
              have HZ2 : Hid _ := hz2
              clear hbl hz3 hz2 hox hb2 hbb
              refine wpAnyH_ready (rs := [8]) (by kernel_rfl) (by simp) ?_
              refine AllReadyH.cons rfl (fun K hK => ?_) AllReadyH.nil
              go_simp
              refine hK.out _ _ ?_ (fun hHeld => ?_)
              · exact HS.out _ HC3.out
              clear hK K
              try simp only [Act.put, List.setIfInBounds_toArray, List.set_cons_succ, List.set_cons_zero]
              refine wpAnyH_ready (rs := [9]) (by kernel_rfl) (by simp) ?_
              refine AllReadyH.cons rfl (fun K hK => ?_) AllReadyH.nil
              refine step_append_R (c := rowC) (d := some 46) rfl rfl (.tmp 38) (.tmp 45) 26 rfl (w.heap.size + 3) 43 i0 _ 7 120 Try.underlying26 hi0 hz0 hz1 hz2 rfl (by decide) _ _ _ rfl HU3.out _ rfl [(⟨(esAt l j).e, al, cl, as_, cs, af, cf⟩ : Row)] (row_one_at (heap_alloc_new w2 _)) rowC_len rowC_one (by unfold maxLen; simp; omega) (by simp; omega) (by have h1 := HZ3.out; have h2 := HZ2.out; omega) ?_; intro u4 w4 ho4 hg4; have HC4 : Hid (Below (w.heap.size + 1) W1 w4) := HC3.out.grown hg4 (by have := HC3.out.size; omega) (fun k hk => by have := World.ownsRow.lt HG1.out.rows k hk; omega)
              refine hK.out _ _ ?_ (fun hHeld => ?_)
              · exact HS.out _ HC4.out
              clear hK K
              (try simp only [Act.put]); (try simp only [List.setIfInBounds_toArray]); (try simp only [List.set_cons_succ]); (try simp only [List.set_cons_zero])
              have QO4 : Hid (w4.heap[w.heap.size + 1 + 1]? = _) := (hg4.block _ (Array.getElem?_eq_some_iff.1 QO3.out).1 (gr_ne HG1.out (.inl (by omega)))).trans QO3.out
              have QR4 : Hid (w4.heap[w.heap.size + 1]? = _) := (hg4.block _ (Array.getElem?_eq_some_iff.1 QR3.out).1 (gr_ne HG1.out (.inl (by omega)))).trans QR3.out
              have hgr := gr_add (x := (⟨(esAt l j).e, al, cl, as_, cs, af, cf⟩ : Row)) (w1 := w2) HU3.out HE3.out HX3.out (by rw [HZ3.out]; omega) (by simpa using ho4) hg4
              have hB4 : Below w.heap.size w w4 := HB3.out.grown hg4 HB3.out.size (fun k hk => by have := World.ownsRow.lt HG1.out.rows k hk; omega)
              obtain ⟨a4, c4, rfl⟩ := readsR_shape (gr_reads hgr).rows
              have HGR : Hid _ := hgr
              have HB4 : Hid _ := hB4
              have o4 : w4.cell? ⟨w.heap.size + 1 + 1, 1, none⟩ = some u := by rw [cell_of_row _ _ _ _ _ _ QO4.out]; rfl
              have f4 : ∀ o, w4.frozen? ⟨w.heap.size + 1 + 1, o, none⟩ = false := fun o => by simp [World.frozen?, QO4.out]
              clear hgr hB4 ho4 hg4
              refine takeH (i := 10) (d := (some 47)) (v := ?_) rfl rfl (by kernel_rfl) (by kernel_rfl) (by kernel_rfl) (fun _ _ _ h => h) (by kernel_rfl) ?_ (by assumption) ?_
              rotate_left
              · (intro w hSw; (try dsimp only at hSw); go_simp; try with_reducible rfl)
              try simp only [Act.put, List.setIfInBounds_toArray, List.set_cons_succ, List.set_cons_zero]
              refine wpAnyH_ready (rs := [11]) (by kernel_rfl) (by simp) ?_
              refine AllReadyH.cons rfl (fun K hK => ?_) AllReadyH.nil
              go_simp
              refine hK.out _ _ ?_ (fun hHeld => ?_)
              · exact HS.out _ (HC4.out.setCell (p := ⟨w.heap.size + 1 + 1, 1, none⟩) (by show w.heap.size + 1 ≤ w.heap.size + 1 + 1; omega) _)
              clear hK K
              try simp only [Act.put, List.setIfInBounds_toArray, List.set_cons_succ, List.set_cons_zero]
              refine wpAnyH_done (by kernel_rfl) ?_ _
              have R1 : Hid _ := gr_cell HGR.out ⟨w.heap.size + 1 + 1, 1, none⟩ (.slice a4 (ys ++ [(⟨(esAt l j).e, al, cl, as_, cs, af, cf⟩ : Row)]).length c4) (by show w.heap.size + 1 + 1 < _; omega)
              have R2 : Hid (Below w.heap.size w (w4.setCell ⟨w.heap.size + 1 + 1, 1, none⟩ (.slice a4 (ys ++ [(⟨(esAt l j).e, al, cl, as_, cs, af, cf⟩ : Row)]).length c4))) := HB4.out.setCell (p := ⟨w.heap.size + 1 + 1, 1, none⟩) (by show w.heap.size ≤ w.heap.size + 1 + 1; omega) _
              have R3 : Hid ((w4.setCell ⟨w.heap.size + 1 + 1, 1, none⟩ (.slice a4 (ys ++ [(⟨(esAt l j).e, al, cl, as_, cs, af, cf⟩ : Row)]).length c4)).heap[w.heap.size + 1 + 1]? = some (.cells #[.int .i64 (n + d), .slice a4 (ys ++ [(⟨(esAt l j).e, al, cl, as_, cs, af, cf⟩ : Row)]).length c4] 28 (0, 0))) := by
                show _ = _
                rw [heap_setCell_same _ (w.heap.size + 1 + 1) 1 _ _ _ QO4.out]; rfl
              have R4 : Hid ((w4.setCell ⟨w.heap.size + 1 + 1, 1, none⟩ (.slice a4 (ys ++ [(⟨(esAt l j).e, al, cl, as_, cs, af, cf⟩ : Row)]).length c4)).heap[w.heap.size + 1]? = _) := (Below.heap_setCell _ _ _ _ (by show w.heap.size + 1 ≠ w.heap.size + 1 + 1; omega)).trans QR4.out
              have QP4 : Hid (w4.heap[w.heap.size]? = _) := (HC4.out.block _ (by omega)).trans Q0.out
              have R7 : Hid ((w4.setCell ⟨w.heap.size + 1 + 1, 1, none⟩ (.slice a4 (ys ++ [(⟨(esAt l j).e, al, cl, as_, cs, af, cf⟩ : Row)]).length c4)).heap[w.heap.size]? = _) := (Below.heap_setCell _ _ _ _ (by show w.heap.size ≠ w.heap.size + 1 + 1; omega)).trans QP4.out
              have R5 : Hid ((ys ++ [(⟨(esAt l j).e, al, cl, as_, cs, af, cf⟩ : Row)]).map Row.e = ((l.take (j + 1)).map Row.e).filter (fun e => lastsB e (n + d))) := by
                show _ = _
                rw [List.map_append, HY.out, take_es hlt, List.map_append, List.filter_append]
                show _ ++ [(esAt l j).e] = _ ++ List.filter (fun e => lastsB e (n + d)) [(esAt l j).e]
                rw [List.filter_cons, if_pos HLT.out]; rfl
              have R6 : (ys ++ [(⟨(esAt l j).e, al, cl, as_, cs, af, cf⟩ : Row)]).length = ys.length + 1 := by rw [List.length_append]; rfl
              rw [R6] at R1 R2 R3 R4 R7
              clear o4 f4 R6
              go_wp2_with fail
              go_roundw
              case rel => exact ⟨j + 1, _, _, hlt, by go_num, R5, R3, R4, R7, R1.out, R2.out⟩
              case measure => simp [intOf]; omega
            · 
              obtain ⟨al, cl, as_, cs, af, cf, rfl, rfl, rfl⟩ := enReads_shape (enOwn_reads hox)
              have hz2 := hb2.size
              have hbl : Below w2.heap.size w2 (w2.alloc (.cells #[.string (esAt l j).e.key, .int .i64 (esAt l j).e.til, .int .i64 (esAt l j).e.kind, .string (esAt l j).e.text, .slice al (esAt l j).e.list.length cl, .slice as_ (esAt l j).e.scores.length cs, .slice af (esAt l j).e.fields.length cf] 43)) := (Below.refl _ w2).alloc (Nat.le_refl _) _
              have QO3 : Hid ((w2.alloc (.cells #[.string (esAt l j).e.key, .int .i64 (esAt l j).e.til, .int .i64 (esAt l j).e.kind, .string (esAt l j).e.text, .slice al (esAt l j).e.list.length cl, .slice as_ (esAt l j).e.scores.length cs, .slice af (esAt l j).e.fields.length cf] 43)).heap[w.heap.size + 1 + 1]? = _) := (hbl.block _ (by omega)).trans ((hb2.block _ (by omega)).trans QO.out)
              have QR3 : Hid ((w2.alloc (.cells #[.string (esAt l j).e.key, .int .i64 (esAt l j).e.til, .int .i64 (esAt l j).e.kind, .string (esAt l j).e.text, .slice al (esAt l j).e.list.length cl, .slice as_ (esAt l j).e.scores.length cs, .slice af (esAt l j).e.fields.length cf] 43)).heap[w.heap.size + 1]? = _) := (hbl.block _ (by omega)).trans ((hb2.block _ (by omega)).trans QR.out)
              have HU3 : Hid _ := ownsR_kept (ownsR_kept HG1.out.rows hb2) hbl
              have HE3 : Hid _ := ensOwn_kept (ensOwn_kept HG1.out.ins hb2) hbl
              have HX3 : Hid _ := enOwn_kept hox hbl
              have hbb := (hb2.trans (hbl.mono hz2))
              have HB3 : Hid (Below w.heap.size w (w2.alloc (.cells #[.string (esAt l j).e.key, .int .i64 (esAt l j).e.til, .int .i64 (esAt l j).e.kind, .string (esAt l j).e.text, .slice al (esAt l j).e.list.length cl, .slice as_ (esAt l j).e.scores.length cs, .slice af (esAt l j).e.fields.length cf] 43))) := HB1.out.trans (hbb.mono HB1.out.size)
              have HC3 : Hid (Below (w.heap.size + 1) W1 (w2.alloc (.cells #[.string (esAt l j).e.key, .int .i64 (esAt l j).e.til, .int .i64 (esAt l j).e.kind, .string (esAt l j).e.text, .slice al (esAt l j).e.list.length cl, .slice as_ (esAt l j).e.scores.length cs, .slice af (esAt l j).e.fields.length cf] 43))) := hbb.mono (by omega)
              have hz3 : (w2.alloc (.cells #[.string (esAt l j).e.key, .int .i64 (esAt l j).e.til, .int .i64 (esAt l j).e.kind, .string (esAt l j).e.text, .slice al (esAt l j).e.list.length cl, .slice as_ (esAt l j).e.scores.length cs, .slice af (esAt l j).e.fields.length cf] 43)).heap.size = w2.heap.size + 1 := by simp
              have HZ3 : Hid _ := hz3
              have HZ2 : Hid _ := hz2
              clear hbl hz3 hz2 hox hb2 hbb
              go_simp
              refine hK.out _ _ ?_ (fun hHeld => ?_)
              · exact HS.out _ HC3.out
              clear hK K
              (try simp only [Act.put]); (try simp only [List.setIfInBounds_toArray]); (try simp only [List.set_cons_succ]); (try simp only [List.set_cons_zero])
              have o3 : (w2.alloc (.cells #[.string (esAt l j).e.key, .int .i64 (esAt l j).e.til, .int .i64 (esAt l j).e.kind, .string (esAt l j).e.text, .slice al (esAt l j).e.list.length cl, .slice as_ (esAt l j).e.scores.length cs, .slice af (esAt l j).e.fields.length cf] 43)).cell? ⟨w.heap.size + 1 + 1, 1, none⟩ = some u := by rw [cell_of_row _ _ _ _ _ _ QO3.out]; rfl
              refine wpAnyH_ready (rs := [1]) (by kernel_rfl) (by simp) ?_
              refine AllReadyH.cons rfl (fun K hK => ?_) AllReadyH.nil
              go_simp
              refine hK.out _ _ ?_ (fun hHeld => ?_)
              · exact HS.out _ HC3.out
              clear hK K
              try simp only [Act.put, List.setIfInBounds_toArray, List.set_cons_succ, List.set_cons_zero]
              refine wpAnyH_ready (rs := [9]) (by kernel_rfl) (by simp) ?_
              refine AllReadyH.cons rfl (fun K hK => ?_) AllReadyH.nil
              refine step_append_R (c := rowC) (d := some 46) rfl rfl (.tmp 38) (.tmp 45) 26 rfl (w.heap.size + 3) 43 i0 _ 7 120 Try.underlying26 hi0 hz0 hz1 hz2 rfl (by decide) _ _ _ rfl HU3.out _ rfl [(⟨(esAt l j).e, al, cl, as_, cs, af, cf⟩ : Row)] (row_one_at (heap_alloc_new w2 _)) rowC_len rowC_one (by unfold maxLen; simp; omega) (by simp; omega) (by have h1 := HZ3.out; have h2 := HZ2.out; omega) ?_; intro u4 w4 ho4 hg4; have HC4 : Hid (Below (w.heap.size + 1) W1 w4) := HC3.out.grown hg4 (by have := HC3.out.size; omega) (fun k hk => by have := World.ownsRow.lt HG1.out.rows k hk; omega)
              refine hK.out _ _ ?_ (fun hHeld => ?_)
              · exact HS.out _ HC4.out
              clear hK K
              (try simp only [Act.put]); (try simp only [List.setIfInBounds_toArray]); (try simp only [List.set_cons_succ]); (try simp only [List.set_cons_zero])
              have QO4 : Hid (w4.heap[w.heap.size + 1 + 1]? = _) := (hg4.block _ (Array.getElem?_eq_some_iff.1 QO3.out).1 (gr_ne HG1.out (.inl (by omega)))).trans QO3.out
              have QR4 : Hid (w4.heap[w.heap.size + 1]? = _) := (hg4.block _ (Array.getElem?_eq_some_iff.1 QR3.out).1 (gr_ne HG1.out (.inl (by omega)))).trans QR3.out
              have hgr := gr_add (x := (⟨(esAt l j).e, al, cl, as_, cs, af, cf⟩ : Row)) (w1 := w2) HU3.out HE3.out HX3.out (by rw [HZ3.out]; omega) (by simpa using ho4) hg4
              have hB4 : Below w.heap.size w w4 := HB3.out.grown hg4 HB3.out.size (fun k hk => by have := World.ownsRow.lt HG1.out.rows k hk; omega)
              obtain ⟨a4, c4, rfl⟩ := readsR_shape (gr_reads hgr).rows
              have HGR : Hid _ := hgr
              have HB4 : Hid _ := hB4
              have o4 : w4.cell? ⟨w.heap.size + 1 + 1, 1, none⟩ = some u := by rw [cell_of_row _ _ _ _ _ _ QO4.out]; rfl
              have f4 : ∀ o, w4.frozen? ⟨w.heap.size + 1 + 1, o, none⟩ = false := fun o => by simp [World.frozen?, QO4.out]
              clear hgr hB4 ho4 hg4
              refine takeH (i := 10) (d := (some 47)) (v := ?_) rfl rfl (by kernel_rfl) (by kernel_rfl) (by kernel_rfl) (fun _ _ _ h => h) (by kernel_rfl) ?_ (by assumption) ?_
              rotate_left
              · (intro w hSw; (try dsimp only at hSw); go_simp; try with_reducible rfl)
              try simp only [Act.put, List.setIfInBounds_toArray, List.set_cons_succ, List.set_cons_zero]
              refine wpAnyH_ready (rs := [11]) (by kernel_rfl) (by simp) ?_
              refine AllReadyH.cons rfl (fun K hK => ?_) AllReadyH.nil
              go_simp
              refine hK.out _ _ ?_ (fun hHeld => ?_)
              · exact HS.out _ (HC4.out.setCell (p := ⟨w.heap.size + 1 + 1, 1, none⟩) (by show w.heap.size + 1 ≤ w.heap.size + 1 + 1; omega) _)
              clear hK K
              try simp only [Act.put, List.setIfInBounds_toArray, List.set_cons_succ, List.set_cons_zero]
              refine wpAnyH_done (by kernel_rfl) ?_ _
              have R1 : Hid _ := gr_cell HGR.out ⟨w.heap.size + 1 + 1, 1, none⟩ (.slice a4 (ys ++ [(⟨(esAt l j).e, al, cl, as_, cs, af, cf⟩ : Row)]).length c4) (by show w.heap.size + 1 + 1 < _; omega)
              have R2 : Hid (Below w.heap.size w (w4.setCell ⟨w.heap.size + 1 + 1, 1, none⟩ (.slice a4 (ys ++ [(⟨(esAt l j).e, al, cl, as_, cs, af, cf⟩ : Row)]).length c4))) := HB4.out.setCell (p := ⟨w.heap.size + 1 + 1, 1, none⟩) (by show w.heap.size ≤ w.heap.size + 1 + 1; omega) _
              have R3 : Hid ((w4.setCell ⟨w.heap.size + 1 + 1, 1, none⟩ (.slice a4 (ys ++ [(⟨(esAt l j).e, al, cl, as_, cs, af, cf⟩ : Row)]).length c4)).heap[w.heap.size + 1 + 1]? = some (.cells #[.int .i64 (n + d), .slice a4 (ys ++ [(⟨(esAt l j).e, al, cl, as_, cs, af, cf⟩ : Row)]).length c4] 28 (0, 0))) := by
                show _ = _
                rw [heap_setCell_same _ (w.heap.size + 1 + 1) 1 _ _ _ QO4.out]; rfl
              have R4 : Hid ((w4.setCell ⟨w.heap.size + 1 + 1, 1, none⟩ (.slice a4 (ys ++ [(⟨(esAt l j).e, al, cl, as_, cs, af, cf⟩ : Row)]).length c4)).heap[w.heap.size + 1]? = _) := (Below.heap_setCell _ _ _ _ (by show w.heap.size + 1 ≠ w.heap.size + 1 + 1; omega)).trans QR4.out
              have QP4 : Hid (w4.heap[w.heap.size]? = _) := (HC4.out.block _ (by omega)).trans Q0.out
              have R7 : Hid ((w4.setCell ⟨w.heap.size + 1 + 1, 1, none⟩ (.slice a4 (ys ++ [(⟨(esAt l j).e, al, cl, as_, cs, af, cf⟩ : Row)]).length c4)).heap[w.heap.size]? = _) := (Below.heap_setCell _ _ _ _ (by show w.heap.size ≠ w.heap.size + 1 + 1; omega)).trans QP4.out
              have R5 : Hid ((ys ++ [(⟨(esAt l j).e, al, cl, as_, cs, af, cf⟩ : Row)]).map Row.e = ((l.take (j + 1)).map Row.e).filter (fun e => lastsB e (n + d))) := by
                show _ = _
                rw [List.map_append, HY.out, take_es hlt, List.map_append, List.filter_append]
                show _ ++ [(esAt l j).e] = _ ++ List.filter (fun e => lastsB e (n + d)) [(esAt l j).e]
                rw [List.filter_cons, if_pos HLT.out]; rfl
              have R6 : (ys ++ [(⟨(esAt l j).e, al, cl, as_, cs, af, cf⟩ : Row)]).length = ys.length + 1 := by rw [List.length_append]; rfl
              rw [R6] at R1 R2 R3 R4 R7
              clear o4 f4 R6
              go_wp2_with fail
              go_roundw
              case rel => exact ⟨j + 1, _, _, hlt, by go_num, R5, R3, R4, R7, R1.out, R2.out⟩
              case measure => simp [intOf]; omega
        · have HLF : lastsB (esAt l j).e (n + d) = false := by unfold lastsB; simp [ht, hu]
          have hu2 : decide (n + d < (esAt l j).e.til) = false := by simpa using hu
          have R5 : Hid (ys.map Row.e = ((l.take (j + 1)).map Row.e).filter (fun e => lastsB e (n + d))) := by
            show _ = _
            rw [HY.out, take_es hlt, List.map_append, List.filter_append]
            show _ = _ ++ List.filter (fun e => lastsB e (n + d)) [(esAt l j).e]
            rw [List.filter_cons, if_neg (by rw [HLF]; decide), List.filter_nil, List.append_nil]
          clear ht hu HLF
          refine wp_region_held_drew (S := (fun w' => w'.cell? ⟨w.heap.size, 1, none⟩ = some (.slice (some ⟨b, off, none⟩) l.length cap) ∧ w'.cell? ⟨b, off + j * 7 + 1, none⟩ = some (.int .i64 (esAt l j).e.til) ∧ w'.cell? ⟨w.heap.size + 1 + 1, 0, none⟩ = some (.int .i64 (n + d)))) (by kernel_rfl) (by exact ⟨p0, c1, o0⟩) (fun hHeld => ?_)
          refine takeH (i := 0) (d := (some 19)) (v := ?_) rfl rfl (by kernel_rfl) (by kernel_rfl) (by kernel_rfl) (fun _ _ _ h => h) (by kernel_rfl) ?_ (by assumption) ?_
          rotate_left
          · (intro w hSw; (try dsimp only at hSw); go_simp; try with_reducible rfl)
          try simp only [Act.put, List.setIfInBounds_toArray, List.set_cons_succ, List.set_cons_zero]
          refine takeH (i := 1) (d := (some 20)) (v := ?_) rfl rfl (by kernel_rfl) (by kernel_rfl) (by kernel_rfl) (fun _ _ _ h => h) (by kernel_rfl) ?_ (by assumption) ?_
          rotate_left
          · (intro w hSw; (try dsimp only at hSw); go_simp; try with_reducible rfl)
          try simp only [Act.put, List.setIfInBounds_toArray, List.set_cons_succ, List.set_cons_zero]
          refine takeH (i := 2) (d := (some 21)) (v := ?_) rfl rfl (by kernel_rfl) (by kernel_rfl) (by kernel_rfl) (fun _ _ _ h => h) (by kernel_rfl) ?_ (by assumption) ?_
          rotate_left
          · (intro w hSw; (try dsimp only at hSw); go_simp; try with_reducible rfl)
          try simp only [Act.put, List.setIfInBounds_toArray, List.set_cons_succ, List.set_cons_zero]
          refine takeH (i := 3) (d := (some 22)) (v := ?_) rfl rfl (by kernel_rfl) (by kernel_rfl) (by kernel_rfl) (fun _ _ _ h => h) (by kernel_rfl) ?_ (by assumption) ?_
          rotate_left
          · (intro w hSw; (try dsimp only at hSw); go_simp; try with_reducible rfl)
          try simp only [Act.put, List.setIfInBounds_toArray, List.set_cons_succ, List.set_cons_zero]
          refine takeH (i := 4) (d := (some 23)) (v := ?_) rfl rfl (by kernel_rfl) (by kernel_rfl) (by kernel_rfl) (fun _ _ _ h => h) (by kernel_rfl) ?_ (by assumption) ?_
          rotate_left
          · (intro w hSw; (try dsimp only at hSw); go_simp; try with_reducible rfl)
          try simp only [Act.put, List.setIfInBounds_toArray, List.set_cons_succ, List.set_cons_zero]
          refine takeH (i := 5) (d := (some 24)) (v := ?_) rfl rfl (by kernel_rfl) (by kernel_rfl) (by kernel_rfl) (fun _ _ _ h => h) (by kernel_rfl) ?_ (by assumption) ?_
          rotate_left
          · (intro w hSw; (try dsimp only at hSw); go_simp; try with_reducible rfl)
          try simp only [Act.put, List.setIfInBounds_toArray, List.set_cons_succ, List.set_cons_zero]
          refine takeH (i := 6) (d := (some 25)) (v := ?_) rfl rfl (by kernel_rfl) (by kernel_rfl) (by kernel_rfl) (fun _ _ _ h => h) (by kernel_rfl) ?_ (by assumption) ?_
          rotate_left
          · (intro w hSw; (try dsimp only at hSw); go_simp; try with_reducible rfl)
          try simp only [Act.put, List.setIfInBounds_toArray, List.set_cons_succ, List.set_cons_zero]
          refine takeH (i := 7) (d := (some 26)) (v := ?_) rfl rfl (by kernel_rfl) (by kernel_rfl) (by kernel_rfl) (fun _ _ _ h => h) (by kernel_rfl) ?_ (by assumption) ?_
          rotate_left
          · (intro w hSw; (try dsimp only at hSw); go_simp; try with_reducible rfl)
          try simp only [Act.put, List.setIfInBounds_toArray, List.set_cons_succ, List.set_cons_zero]
          refine takeH (i := 8) (d := (some 27)) (v := ?_) rfl rfl (by kernel_rfl) (by kernel_rfl) (by kernel_rfl) (fun _ _ _ h => h) (by kernel_rfl) ?_ (by assumption) ?_
          rotate_left
          · (intro w hSw; (try dsimp only at hSw); go_simp; try with_reducible rfl)
          try simp only [Act.put, List.setIfInBounds_toArray, List.set_cons_succ, List.set_cons_zero]
          refine takeH (i := 9) (d := (some 28)) (v := ?_) rfl rfl (by kernel_rfl) (by kernel_rfl) (by kernel_rfl) (fun _ _ _ h => h) (by kernel_rfl) ?_ (by assumption) ?_
          rotate_left
          · (intro w hSw; (try dsimp only at hSw); go_simp; try with_reducible rfl)
          try simp only [Act.put, List.setIfInBounds_toArray, List.set_cons_succ, List.set_cons_zero]
          refine takeH (i := 10) (d := (some 29)) (v := ?_) rfl rfl (by kernel_rfl) (by kernel_rfl) (by kernel_rfl) (fun _ _ _ h => h) (by kernel_rfl) ?_ (by assumption) ?_
          rotate_left
          · (intro w hSw; (try dsimp only at hSw); go_simp; try with_reducible rfl)
          try simp only [Act.put, List.setIfInBounds_toArray, List.set_cons_succ, List.set_cons_zero]
          refine takeH (i := 11) (d := (some 30)) (v := ?_) rfl rfl (by kernel_rfl) (by kernel_rfl) (by kernel_rfl) (fun _ _ _ h => h) (by kernel_rfl) ?_ (by assumption) ?_
          rotate_left
          · (intro w hSw; (try dsimp only at hSw); go_simp; try with_reducible rfl)
          try simp only [Act.put, List.setIfInBounds_toArray, List.set_cons_succ, List.set_cons_zero]
          refine takeH (i := 12) (d := (some 31)) (v := ?_) rfl rfl (by kernel_rfl) (by kernel_rfl) (by kernel_rfl) (fun _ _ _ h => h) (by kernel_rfl) ?_ (by assumption) ?_
          rotate_left
          · (intro w hSw; (try dsimp only at hSw); go_simp; try with_reducible rfl)
          try simp only [Act.put, List.setIfInBounds_toArray, List.set_cons_succ, List.set_cons_zero]
          refine takeH (i := 13) (d := (some 32)) (v := ?_) rfl rfl (by kernel_rfl) (by kernel_rfl) (by kernel_rfl) (fun _ _ _ h => h) (by kernel_rfl) ?_ (by assumption) ?_
          rotate_left
          · (intro w hSw; (try dsimp only at hSw); go_simp; try with_reducible rfl)
          try simp only [Act.put, List.setIfInBounds_toArray, List.set_cons_succ, List.set_cons_zero]
          refine takeH (i := 14) (d := (some 33)) (v := ?_) rfl rfl (by kernel_rfl) (by kernel_rfl) (by kernel_rfl) (fun _ _ _ h => h) (by kernel_rfl) ?_ (by assumption) ?_
          rotate_left
          · (intro w hSw; (try dsimp only at hSw); go_simp; try with_reducible rfl)
          try simp only [Act.put, List.setIfInBounds_toArray, List.set_cons_succ, List.set_cons_zero]
          refine takeH (i := 15) (d := (some 34)) (v := ?_) rfl rfl (by kernel_rfl) (by kernel_rfl) (by kernel_rfl) (fun _ _ _ h => h) (by kernel_rfl) ?_ (by assumption) ?_
          rotate_left
          · (intro w hSw; (try dsimp only at hSw); go_simp; try with_reducible rfl)
          try simp only [Act.put, List.setIfInBounds_toArray, List.set_cons_succ, List.set_cons_zero]
          refine takeH (i := 16) (d := (some 35)) (v := ?_) rfl rfl (by kernel_rfl) (by kernel_rfl) (by kernel_rfl) (fun _ _ _ h => h) (by kernel_rfl) ?_ (by assumption) ?_
          rotate_left
          · (intro w hSw; (try dsimp only at hSw); go_simp; try with_reducible rfl)
          try simp only [Act.put, List.setIfInBounds_toArray, List.set_cons_succ, List.set_cons_zero]
          refine takeH (i := 17) (d := (some 36)) (v := ?_) rfl rfl (by kernel_rfl) (by kernel_rfl) (by kernel_rfl) (fun _ _ _ h => h) (by kernel_rfl) ?_ (by assumption) ?_
          rotate_left
          · (intro w hSw; (try dsimp only at hSw); go_simp; try with_reducible rfl)
          try simp only [Act.put, List.setIfInBounds_toArray, List.set_cons_succ, List.set_cons_zero]
          refine wpAnyH_done (by kernel_rfl) ?_ _
          have hbd : Below wr.heap.size wr wr.drew := (Below.refl _ wr).drew
          have R1 := gr_kept hG hbd
          have R2 := hB.trans (hbd.mono hBz)
          have R3 : Hid (wr.drew.heap[w.heap.size + 1 + 1]? = _) := Q2.out
          have R4 : Hid (wr.drew.heap[w.heap.size + 1]? = _) := Q1.out
          have R7 : Hid (wr.drew.heap[w.heap.size]? = _) := P0.out
          clear hHeld hbd hq hq2 hu2 p0 o0 c0 c1 c2 c3 c4 c5 c6 hin hG hB
          generalize wr.drew = wx at *
          go_wp2_with fail
          go_roundw
          case rel => exact ⟨j + 1, _, _, hlt, by go_num, R5, R3, R4, R7, R1, R2⟩
          case measure => simp [intOf]; omega
    · obtain rfl : j = l.length := by omega
      obtain ⟨au, cu, rfl⟩ := readsR_shape (gr_reads hG).rows
      have p9 : wr.cell? ⟨w.heap.size, 1, none⟩ = some (.slice ao l.length cap) := by rw [cell_of_row _ _ _ _ _ _ P0.out]; rfl
      have x2 := Q2.out
      have x1 := Q1.out
      have p0 : wr.cell? ⟨w.heap.size + 1 + 1, 0, none⟩ = some (.int .i64 (n + d)) := by rw [cell_of_row _ _ _ _ _ _ x2]; rfl
      have p1 : wr.cell? ⟨w.heap.size + 1 + 1, 1, none⟩ = some (.slice au ys.length cu) := by rw [cell_of_row _ _ _ _ _ _ x2]; rfl
      have r0 : wr.cell? ⟨w.heap.size + 1, 0, none⟩ = some (.int .i64 0) := by rw [cell_of_row _ _ _ _ _ _ x1]; rfl
      have r1 : wr.cell? ⟨w.heap.size + 1, 1, none⟩ = some (.slice none 0 0) := by rw [cell_of_row _ _ _ _ _ _ x1]; rfl
      have f1 : ∀ o, wr.frozen? ⟨w.heap.size + 1, o, none⟩ = false := fun o => by simp [World.frozen?, x1]
      clear x2 x1
      have hw := hB.size
      go_wp2_with fail
      have g1 := gr_cell (gr_cell hG ⟨w.heap.size + 1, 0, none⟩ (.int .i64 (n + d)) (by show w.heap.size + 1 < _; omega)) ⟨w.heap.size + 1, 1, none⟩ (.slice au ys.length cu) (by show w.heap.size + 1 < _; omega)
      have b1 := (hB.setCell (p := ⟨w.heap.size + 1, 0, none⟩) (by show w.heap.size ≤ w.heap.size + 1; omega) (.int .i64 (n + d))).setCell (p := ⟨w.heap.size + 1, 1, none⟩) (by show w.heap.size ≤ w.heap.size + 1; omega) (.slice au ys.length cu)
      refine bodyPost_ret (results_cell_row rfl _ _ (w.heap.size + 1) 28 _ (0, 0) _ rfl (by rw [heap_setCell_same _ (w.heap.size + 1) 1 _ _ _ (heap_setCell_same _ (w.heap.size + 1) 0 _ _ _ Q1.out)]) Try.underlying28 rfl (by kernel_rfl)) rfl ?_
      exact ⟨⟨_, ys, rfl, by rw [HY.out, List.take_length], gr_base g1 (by omega)⟩, b1⟩
end Go.Proofs.Ytnaklhompdcgeaa
/- The model's BaseTick. -/
namespace Go.Proofs.Ytnaklhompdcgeaa
open Go.RowKit
set_option linter.unusedVariables false


set_option maxHeartbeats 8000000 in
set_option maxRecDepth 100000 in
theorem specTick_any (n d : Int) (v : Value) (l : List Row) (w : World) (hr : EsReads w v l) (hs : EsSmall l) (hnw : -9223372036854775808 ≤ n ∧ n ≤ 9223372036854775807) :
    Calls Try.prog 5 #[bsV n v, .int .i64 d] w fun x w' => (∃ u ys, x = .returned (bsV (tickN n d (l.map Row.e)) u) ∧ ys.map Row.e = tickL n d (l.map Row.e) ∧ Gr w' w.heap.size u ys) ∧ Below w.heap.size w w' := by
  obtain ⟨ao, cap, rfl⟩ := readsR_shape hr.rows
  have hlen := hs.len
  obtain ⟨i0, hi0, hz0, hz1, hz2⟩ := info_parts enInfo
  go_enter Try.func5, Try.ntmps5
  go_wp2_with fail
  obtain ⟨w0, hW⟩ : ∃ W, (w.alloc (.cells #[.int .i64 n, .slice ao l.length cap] 28)).alloc (.cells #[.int .i64 0, .slice none 0 0] 28) = W := ⟨_, rfl⟩
  have hB0 : Below w.heap.size w w0 := by rw [← hW]; exact ((Below.refl _ w).alloc (Nat.le_refl _) _).alloc (by simp) _
  have hzz : w0.heap.size = w.heap.size + 2 := by rw [← hW]; simp
  obtain ⟨q0, q1⟩ : w0.heap[w.heap.size]? = some _ ∧ w0.heap[w.heap.size + 1]? = some _ := by rw [← hW]; exact two_rows _ _ _
  rw [hW]
  clear hW
  refine (specBaseOk_any n _ l _ (esReads_kept hr hB0) hs hnw).mono ?_
  rintro x w1 ⟨rfl, hb1⟩
  have hB1 := hB0.trans (hb1.mono hB0.size)
  have hOw := hb1.size
  rw [hzz] at hOw
  have q0 := (hb1.block w.heap.size (by omega)).trans q0
  have q1 := (hb1.block (w.heap.size + 1) (by omega)).trans q1
  have Q0 : Hid _ := q0
  have Q1 : Hid _ := q1
  have b0 : w1.cell? ⟨w.heap.size, 0, none⟩ = some (.int .i64 n) := by rw [cell_of_row _ _ _ _ _ _ q0]; rfl
  have b1 : w1.cell? ⟨w.heap.size, 1, none⟩ = some (.slice ao l.length cap) := by rw [cell_of_row _ _ _ _ _ _ q0]; rfl
  have r0 : w1.cell? ⟨w.heap.size + 1, 0, none⟩ = some (.int .i64 0) := by rw [cell_of_row _ _ _ _ _ _ q1]; rfl
  have r1 : w1.cell? ⟨w.heap.size + 1, 1, none⟩ = some (.slice none 0 0) := by rw [cell_of_row _ _ _ _ _ _ q1]; rfl
  have f1 : ∀ o, w1.frozen? ⟨w.heap.size + 1, o, none⟩ = false := fun o => by simp [World.frozen?, q1]
  clear hb1 hB0 hzz q0 q1
  cases hok : bsOkB n (l.map Row.e) with
  | false =>
    have HOK : Hid _ := hok
    clear hok
    have HN : Hid (tickN n d (l.map Row.e) = 0) := by show _ = _; unfold tickN; rw [if_neg (by rw [HOK.out]; decide)]
    have HL : Hid (tickL n d (l.map Row.e) = []) := by show _ = _; unfold tickL; rw [if_neg (by rw [HOK.out]; decide)]
    go_wp2_with fail
    refine bodyPost_ret (results_cell_row rfl _ _ (w.heap.size + 1) 28 _ (0, 0) _ rfl (by rw [heap_setCell_same _ (w.heap.size + 1) 1 _ _ _ (heap_setCell_same _ (w.heap.size + 1) 0 _ _ _ Q1.out)]) Try.underlying28 rfl (by kernel_rfl)) rfl ?_
    have b1 := (hB1.setCell (p := ⟨w.heap.size + 1, 0, none⟩) (by show w.heap.size ≤ w.heap.size + 1; omega) (.int .i64 0)).setCell (p := ⟨w.heap.size + 1, 1, none⟩) (by show w.heap.size ≤ w.heap.size + 1; omega) (.slice none 0 0)
    exact ⟨⟨_, [], by rw [HN.out]; rfl, by rw [HL.out]; rfl, gr_nil b1.size⟩, b1⟩
  | true =>
    have HOK : Hid _ := hok
    obtain ⟨hn, hn2⟩ := now_in hok
    clear hok
    by_cases hd : d < 0 ∨ 1000000 - n < d
    · have HN : Hid (tickN n d (l.map Row.e) = n) := by show _ = _; unfold tickN; rw [if_pos HOK.out, if_pos hd]
      have HL : Hid (tickL n d (l.map Row.e) = l.map Row.e) := by show _ = _; unfold tickL; rw [if_pos HOK.out, if_pos hd]
      have hT1 : (decide ((0 : Int) ≤ d) && decide (d ≤ 1000000 - n)) = false := by rw [Bool.eq_false_iff]; simp only [ne_eq, Bool.and_eq_true, decide_eq_true_eq]; omega
      go_wp2_with fail
      refine (l1In_any _ _ _ _).mono ?_
      rw [hT1]
      rintro e w' ⟨rfl, rfl⟩
      go_wp2_with fail
      refine (l4Copy_any n (.slice ao l.length cap) l w1 (esReads_kept hr hB1) hs).mono ?_
      rintro x w2 ⟨⟨u, ys, rfl, hy, hg⟩, hb2⟩
      obtain ⟨au, cu, rfl⟩ := readsR_shape (gr_reads hg).rows
      have hR : w.heap.size + 1 < w1.heap.size := by omega
      have q2 := (hb2.block (w.heap.size + 1) hR).trans Q1.out
      have hB2 := hB1.trans (hb2.mono hB1.size)
      have Q2 : Hid _ := q2
      have HY2 : Hid _ := hy
      have HG2 : Hid _ := hg
      have s0 : w2.cell? ⟨w.heap.size + 1, 0, none⟩ = some (.int .i64 0) := by rw [cell_of_row _ _ _ _ _ _ q2]; rfl
      have s1 : w2.cell? ⟨w.heap.size + 1, 1, none⟩ = some (.slice none 0 0) := by rw [cell_of_row _ _ _ _ _ _ q2]; rfl
      have g1 : ∀ o, w2.frozen? ⟨w.heap.size + 1, o, none⟩ = false := fun o => by simp [World.frozen?, q2]
      clear hy hg q2 hb2 r0 r1 f1 b0 b1
      go_wp2_with fail
      refine bodyPost_ret (results_cell_row rfl _ _ (w.heap.size + 1) 28 _ (0, 0) _ rfl (by rw [heap_setCell_same _ (w.heap.size + 1) 1 _ _ _ (heap_setCell_same _ (w.heap.size + 1) 0 _ _ _ Q2.out)]) Try.underlying28 rfl (by kernel_rfl)) rfl ?_
      have g1 := gr_cell (gr_cell HG2.out ⟨w.heap.size + 1, 0, none⟩ (.int .i64 (n)) hR) ⟨w.heap.size + 1, 1, none⟩ (.slice au ys.length cu) hR
      have b1 := (hB2.setCell (p := ⟨w.heap.size + 1, 0, none⟩) (by show w.heap.size ≤ w.heap.size + 1; omega) (.int .i64 (n))).setCell (p := ⟨w.heap.size + 1, 1, none⟩) (by show w.heap.size ≤ w.heap.size + 1; omega) (.slice au ys.length cu)
      exact ⟨⟨_, ys, by rw [HN.out]; rfl, by rw [HL.out, HY2.out], gr_base g1 (by omega)⟩, b1⟩
    · have HN : Hid (tickN n d (l.map Row.e) = n + d) := by show _ = _; unfold tickN; rw [if_pos HOK.out, if_neg hd]
      have HL : Hid (tickL n d (l.map Row.e) = (l.map Row.e).filter (fun e => lastsB e (n + d))) := by show _ = _; unfold tickL; rw [if_pos HOK.out, if_neg hd]
      have hT1 : (decide ((0 : Int) ≤ d) && decide (d ≤ 1000000 - n)) = true := by simp only [Bool.and_eq_true, decide_eq_true_eq]; omega
      go_wp2_with fail
      refine (l1In_any _ _ _ _).mono ?_
      rw [hT1]
      rintro e w' ⟨rfl, rfl⟩
      go_wp2_with fail
      refine ((fun a b => l4Tick_any n d (.slice ao l.length cap) l w1 a b hn hn2 (by omega) (by omega)) (esReads_kept hr hB1) hs).mono ?_
      rintro x w2 ⟨⟨u, ys, rfl, hy, hg⟩, hb2⟩
      obtain ⟨au, cu, rfl⟩ := readsR_shape (gr_reads hg).rows
      have hR : w.heap.size + 1 < w1.heap.size := by omega
      have q2 := (hb2.block (w.heap.size + 1) hR).trans Q1.out
      have hB2 := hB1.trans (hb2.mono hB1.size)
      have Q2 : Hid _ := q2
      have HY2 : Hid _ := hy
      have HG2 : Hid _ := hg
      have s0 : w2.cell? ⟨w.heap.size + 1, 0, none⟩ = some (.int .i64 0) := by rw [cell_of_row _ _ _ _ _ _ q2]; rfl
      have s1 : w2.cell? ⟨w.heap.size + 1, 1, none⟩ = some (.slice none 0 0) := by rw [cell_of_row _ _ _ _ _ _ q2]; rfl
      have g1 : ∀ o, w2.frozen? ⟨w.heap.size + 1, o, none⟩ = false := fun o => by simp [World.frozen?, q2]
      clear hy hg q2 hb2 r0 r1 f1 b0 b1
      go_wp2_with fail
      refine bodyPost_ret (results_cell_row rfl _ _ (w.heap.size + 1) 28 _ (0, 0) _ rfl (by rw [heap_setCell_same _ (w.heap.size + 1) 1 _ _ _ (heap_setCell_same _ (w.heap.size + 1) 0 _ _ _ Q2.out)]) Try.underlying28 rfl (by kernel_rfl)) rfl ?_
      have g1 := gr_cell (gr_cell HG2.out ⟨w.heap.size + 1, 0, none⟩ (.int .i64 (n + d)) hR) ⟨w.heap.size + 1, 1, none⟩ (.slice au ys.length cu) hR
      have b1 := (hB2.setCell (p := ⟨w.heap.size + 1, 0, none⟩) (by show w.heap.size ≤ w.heap.size + 1; omega) (.int .i64 (n + d))).setCell (p := ⟨w.heap.size + 1, 1, none⟩) (by show w.heap.size ≤ w.heap.size + 1; omega) (.slice au ys.length cu)
      exact ⟨⟨_, ys, by rw [HN.out]; rfl, by rw [HL.out, HY2.out], gr_base g1 (by omega)⟩, b1⟩
end Go.Proofs.Ytnaklhompdcgeaa
