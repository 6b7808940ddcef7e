/- The model's l4Copy: a base whose rows grow by append. -/
import Derived.Test.YtooomgffcamijaaGreatGrW1
import Derived.Test.YtooomgffcamijaaGreatEnW3
namespace Go.Proofs.YtooomgffcamijaaGreat
open Go.RowKit
set_option linter.unusedVariables false

set_option maxHeartbeats 8000000 in
set_option maxRecDepth 100000 in
theorem l4Copy_any (n : Int) (v : Value) (l : List Row) (w : World) (hr : EsReads w v l) (hs : EsSmall l) :
    Calls Tryz.prog 25 #[bsV n v] w fun x w' => (∃ u ys, x = .returned (bsV n u) ∧ ys.map Row.e = l.map Row.e ∧ Gr w' w.heap.size u ys) ∧ Below w.heap.size w w' := by
  obtain ⟨ao, cap, rfl⟩ := readsR_shape hr.rows
  have hlen := hs.len
  obtain ⟨i0, hi0, hz0, hz1, hz2⟩ := info_parts enInfo
  go_enter Tryz.func25, Tryz.ntmps25
  go_wp2_with fail
  obtain ⟨w0, hW⟩ : ∃ W, ((w.alloc (.cells #[.int .i64 n, .slice ao l.length cap] 28)).alloc (.cells #[.int .i64 0, .slice none 0 0] 28)).alloc (.cells #[.int .i64 n, .slice none 0 0] 28) = W := ⟨_, rfl⟩
  have hB0 : Below w.heap.size w w0 := by rw [← hW]; exact (((Below.refl _ w).alloc (Nat.le_refl _) _).alloc (by simp) _).alloc (by simp; omega) _
  have hzz : w0.heap.size = w.heap.size + 3 := by rw [← hW]; simp
  have qp : w0.heap[w.heap.size]? = some (.cells #[.int .i64 n, .slice ao l.length cap] 28 (0, 0)) := (by rw [← hW]; exact (((Below.refl (w.heap.size + 1) _).alloc (by simp) _).alloc (by simp) _).block _ (by omega) : w0.heap[w.heap.size]? = (w.alloc (.cells #[.int .i64 n, .slice ao l.length cap] 28)).heap[w.heap.size]?).trans (heap_alloc_new _ _)
  have QP : Hid _ := qp
  have q1 : w0.heap[w.heap.size + 1]? = some (.cells #[.int .i64 0, .slice none 0 0] 28 (0, 0)) := by rw [← hW]; exact heap_mid _ _ _ _
  have q2 : w0.heap[w.heap.size + 1 + 1]? = some (.cells #[.int .i64 n, .slice none 0 0] 28 (0, 0)) := by
    rw [← hW]
    have := heap_alloc_new ((w.alloc (.cells #[.int .i64 n, .slice ao l.length cap] 28)).alloc (.cells #[.int .i64 0, .slice none 0 0] 28)) (.cells #[.int .i64 n, .slice none 0 0] 28)
    rw [World.size_alloc, World.size_alloc] at this
    exact this
  rw [hW]
  have G0 : Gr w0 (w.heap.size + 3) (.slice none 0 0) [] := gr_nil (by omega)
  have Q1 : Hid _ := q1
  have Q2 : Hid _ := q2
  clear hW q1 q2 qp
  go_loopw [4] (fun i wr => ∃ (j : Nat) (u : Value) (ys : List Row), j ≤ l.length ∧ i = .int .i64 j ∧ Hid (ys.map Row.e = (l.take j).map Row.e) ∧ Hid (wr.heap[w.heap.size + 1 + 1]? = some (.cells #[.int .i64 n, u] 28 (0, 0))) ∧ Hid (wr.heap[w.heap.size + 1]? = some (.cells #[.int .i64 0, .slice none 0 0] 28 (0, 0))) ∧ Hid (wr.heap[w.heap.size]? = some (.cells #[.int .i64 n, .slice ao l.length cap] 28 (0, 0))) ∧ Gr wr (w.heap.size + 3) u ys ∧ Below w.heap.size w wr) (fun i _ => l.length - (intOf i).toNat)
  case atStart => exact ⟨0, _, [], Nat.zero_le _, rfl, rfl, Q2, Q1, QP, G0, hB0⟩
  case round =>
    clear G0 Q1 Q2 QP hB0 hzz
    obtain ⟨j, u, ys, hj, rfl, HY, Q2, Q1, P0, hG, hB⟩ := hrel
    by_cases hlt : j < l.length
    · obtain ⟨b, off, rfl, hb, hnc, hcm, hc⟩ := es_some hr.rows (by omega)
      obtain ⟨c0, c1, c2, c3, c4, c5, c6⟩ := es_cells hc hB hb hlt
      have hk1 : (j : Int) < (l.length : Int) := by omega
      have hin := rowIn_kept (hr.ins _ (esAt_mem hlt)) hB
      have hsm := hs.each _ (esAt_mem hlt)
      have hys : ys.length = j := by
        have := congrArg List.length HY.out
        rw [List.length_map, List.length_map, List.length_take] at this; omega
      have hBz := hB.size
      have PB : Hid _ := P0.out
      have p0 : wr.cell? ⟨w.heap.size, 1, none⟩ = some (.slice (some ⟨b, off, none⟩) l.length cap) := by rw [cell_of_row _ _ _ _ _ _ P0.out]; rfl
      clear hc hnc hcm
      go_wp2_with fail
      have hO : w.heap.size + 1 + 1 < wr.heap.size := (Array.getElem?_eq_some_iff.1 Q2.out).1
      have hb1 : Below wr.heap.size wr wr.drew := (Below.refl _ wr).drew
      have hsz1 : wr.heap.size = wr.drew.heap.size := by simp
      have hcc := And.intro p0 (And.intro c0 (And.intro c1 (And.intro c2 (And.intro c3 (And.intro c4 (And.intro c5 c6))))))
      have HS : Hid (∀ w' : World, Below (w.heap.size + 1) wr.drew w' → (w'.cell? ⟨w.heap.size, 1, none⟩ = some (.slice (some ⟨b, off, none⟩) l.length cap) ∧ w'.cell? ⟨b, off + j * 7, none⟩ = some (.string (esAt l j).e.key) ∧ w'.cell? ⟨b, off + j * 7 + 1, none⟩ = some (.int .i64 (esAt l j).e.til) ∧ w'.cell? ⟨b, off + j * 7 + 2, none⟩ = some (.int .i64 (esAt l j).e.kind) ∧ w'.cell? ⟨b, off + j * 7 + 3, none⟩ = some (.string (esAt l j).e.text) ∧ w'.cell? ⟨b, off + j * 7 + 4, none⟩ = some (.slice (esAt l j).al (esAt l j).e.list.length (esAt l j).cl) ∧ w'.cell? ⟨b, off + j * 7 + 5, none⟩ = some (.slice (esAt l j).as_ (esAt l j).e.scores.length (esAt l j).cs) ∧ w'.cell? ⟨b, off + j * 7 + 6, none⟩ = some (.slice (esAt l j).af (esAt l j).e.fields.length (esAt l j).cf))) := fun w' h => ⟨(h.cell (p := ⟨w.heap.size, 1, none⟩) (by show w.heap.size < w.heap.size + 1; omega)).trans p0, (h.cell (p := ⟨b, off + j * 7, none⟩) (by show b < w.heap.size + 1; omega)).trans c0, (h.cell (p := ⟨b, off + j * 7 + 1, none⟩) (by show b < w.heap.size + 1; omega)).trans c1, (h.cell (p := ⟨b, off + j * 7 + 2, none⟩) (by show b < w.heap.size + 1; omega)).trans c2, (h.cell (p := ⟨b, off + j * 7 + 3, none⟩) (by show b < w.heap.size + 1; omega)).trans c3, (h.cell (p := ⟨b, off + j * 7 + 4, none⟩) (by show b < w.heap.size + 1; omega)).trans c4, (h.cell (p := ⟨b, off + j * 7 + 5, none⟩) (by show b < w.heap.size + 1; omega)).trans c5, (h.cell (p := ⟨b, off + j * 7 + 6, none⟩) (by show b < w.heap.size + 1; omega)).trans c6⟩
      have hin1 := rowIn_kept hin hb1
      have hG1 := gr_kept hG hb1
      have qO : wr.drew.heap[w.heap.size + 1 + 1]? = _ := Q2.out
      have qR : wr.drew.heap[w.heap.size + 1]? = _ := Q1.out
      have q0 : wr.drew.heap[w.heap.size]? = _ := P0.out
      have hB1 := hB.trans (hb1.mono hBz)
      have hzO : w.heap.size + 1 + 1 < wr.drew.heap.size := by rw [← hsz1]; exact hO
      have HB1 : Hid _ := hB1
      have QO : Hid _ := qO
      have QR : Hid _ := qR
      have Q0 : Hid _ := q0
      have HI : Hid _ := hin1
      have HG1 : Hid _ := hG1
      have o1 : wr.drew.cell? ⟨w.heap.size + 1 + 1, 1, none⟩ = some u := by rw [cell_of_row _ _ _ _ _ _ qO]; rfl
      clear hb1 hin1 hG1 qO qR q0 hB1 hin hG hB Q1 Q2 c0 c1 c2 c3 c4 c5 c6 hr p0 hcc PB P0 hsz1
      refine wp_region_held_drew (S := (fun w' => (w'.cell? ⟨w.heap.size, 1, none⟩ = some (.slice (some ⟨b, off, none⟩) l.length cap) ∧ w'.cell? ⟨b, off + j * 7, none⟩ = some (.string (esAt l j).e.key) ∧ w'.cell? ⟨b, off + j * 7 + 1, none⟩ = some (.int .i64 (esAt l j).e.til) ∧ w'.cell? ⟨b, off + j * 7 + 2, none⟩ = some (.int .i64 (esAt l j).e.kind) ∧ w'.cell? ⟨b, off + j * 7 + 3, none⟩ = some (.string (esAt l j).e.text) ∧ w'.cell? ⟨b, off + j * 7 + 4, none⟩ = some (.slice (esAt l j).al (esAt l j).e.list.length (esAt l j).cl) ∧ w'.cell? ⟨b, off + j * 7 + 5, none⟩ = some (.slice (esAt l j).as_ (esAt l j).e.scores.length (esAt l j).cs) ∧ w'.cell? ⟨b, off + j * 7 + 6, none⟩ = some (.slice (esAt l j).af (esAt l j).e.fields.length (esAt l j).cf)))) (by kernel_rfl) (by exact HS.out _ (Below.refl _ _)) (fun hHeld => ?_)
      generalize wr.drew = W1 at *
      refine takeH (i := 0) (d := (some 15)) (v := ?_) rfl rfl (by kernel_rfl) (by kernel_rfl) (by kernel_rfl) (fun _ _ _ h => h) (by kernel_rfl) ?_ (by assumption) ?_
      rotate_left
      · (intro w hSw; (try dsimp only at hSw); go_simp; try with_reducible rfl)
      try simp only [Act.put, List.setIfInBounds_toArray, List.set_cons_succ, List.set_cons_zero]
      refine takeH (i := 2) (d := (some 17)) (v := ?_) rfl rfl (by kernel_rfl) (by kernel_rfl) (by kernel_rfl) (fun _ _ _ h => h) (by kernel_rfl) ?_ (by assumption) ?_
      rotate_left
      · (intro w hSw; (try dsimp only at hSw); go_simp; try with_reducible rfl)
      try simp only [Act.put, List.setIfInBounds_toArray, List.set_cons_succ, List.set_cons_zero]
      refine takeH (i := 3) (d := (some 18)) (v := ?_) rfl rfl (by kernel_rfl) (by kernel_rfl) (by kernel_rfl) (fun _ _ _ h => h) (by kernel_rfl) ?_ (by assumption) ?_
      rotate_left
      · (intro w hSw; (try dsimp only at hSw); go_simp; try with_reducible rfl)
      try simp only [Act.put, List.setIfInBounds_toArray, List.set_cons_succ, List.set_cons_zero]
      refine takeH (i := 4) (d := (some 19)) (v := ?_) rfl rfl (by kernel_rfl) (by kernel_rfl) (by kernel_rfl) (fun _ _ _ h => h) (by kernel_rfl) ?_ (by assumption) ?_
      rotate_left
      · (intro w hSw; (try dsimp only at hSw); go_simp; try with_reducible rfl)
      try simp only [Act.put, List.setIfInBounds_toArray, List.set_cons_succ, List.set_cons_zero]
      refine takeH (i := 5) (d := (some 20)) (v := ?_) rfl rfl (by kernel_rfl) (by kernel_rfl) (by kernel_rfl) (fun _ _ _ h => h) (by kernel_rfl) ?_ (by assumption) ?_
      rotate_left
      · (intro w hSw; (try dsimp only at hSw); go_simp; try with_reducible rfl)
      try simp only [Act.put, List.setIfInBounds_toArray, List.set_cons_succ, List.set_cons_zero]
      refine takeH (i := 6) (d := (some 21)) (v := ?_) rfl rfl (by kernel_rfl) (by kernel_rfl) (by kernel_rfl) (fun _ _ _ h => h) (by kernel_rfl) ?_ (by assumption) ?_
      rotate_left
      · (intro w hSw; (try dsimp only at hSw); go_simp; try with_reducible rfl)
      try simp only [Act.put, List.setIfInBounds_toArray, List.set_cons_succ, List.set_cons_zero]
      refine wpAnyH_ready (rs := [1, 7]) (by kernel_rfl) (by simp) ?_
      refine AllReadyH.cons rfl (fun K hK => ?_) (AllReadyH.cons rfl (fun K hK => ?_) AllReadyH.nil)
      · go_simp
        refine hK.out _ _ ?_ (fun hHeld => ?_)
        · exact HS.out _ (Below.refl _ _)
        clear hK K
        (try simp only [Act.put]); (try simp only [List.setIfInBounds_toArray]); (try simp only [List.set_cons_succ]); (try simp only [List.set_cons_zero])
        refine wpAnyH_ready (rs := [7]) (by kernel_rfl) (by simp) ?_
        refine AllReadyH.cons rfl (fun K hK => ?_) AllReadyH.nil
        go_simp
        refine (l4Entry_any (esAt l j).e _ _ _ _ HI.out hsm).mono ?_; rintro x w2 ⟨⟨ul, us, uf, rfl, hox⟩, hb2⟩
        refine hK.out _ _ ?_ (fun hHeld => ?_)
        · exact HS.out _ (hb2.mono (by omega))
        clear hK K
        try simp only [Act.put, List.setIfInBounds_toArray, List.set_cons_succ, List.set_cons_zero]
        obtain ⟨al, cl, as_, cs, af, cf, rfl, rfl, rfl⟩ := enReads_shape (enOwn_reads hox)
        have hz2 := hb2.size
        have hbl : Below w2.heap.size w2 (w2.alloc (.cells #[.string (esAt l j).e.key, .int .i64 (esAt l j).e.til, .int .i64 (esAt l j).e.kind, .string (esAt l j).e.text, .slice al (esAt l j).e.list.length cl, .slice as_ (esAt l j).e.scores.length cs, .slice af (esAt l j).e.fields.length cf] 53)) := (Below.refl _ w2).alloc (Nat.le_refl _) _
        have QO3 : Hid ((w2.alloc (.cells #[.string (esAt l j).e.key, .int .i64 (esAt l j).e.til, .int .i64 (esAt l j).e.kind, .string (esAt l j).e.text, .slice al (esAt l j).e.list.length cl, .slice as_ (esAt l j).e.scores.length cs, .slice af (esAt l j).e.fields.length cf] 53)).heap[w.heap.size + 1 + 1]? = _) := (hbl.block _ (by omega)).trans ((hb2.block _ (by omega)).trans QO.out)
        have QR3 : Hid ((w2.alloc (.cells #[.string (esAt l j).e.key, .int .i64 (esAt l j).e.til, .int .i64 (esAt l j).e.kind, .string (esAt l j).e.text, .slice al (esAt l j).e.list.length cl, .slice as_ (esAt l j).e.scores.length cs, .slice af (esAt l j).e.fields.length cf] 53)).heap[w.heap.size + 1]? = _) := (hbl.block _ (by omega)).trans ((hb2.block _ (by omega)).trans QR.out)
        have HU3 : Hid _ := ownsR_kept (ownsR_kept HG1.out.rows hb2) hbl
        have HE3 : Hid _ := ensOwn_kept (ensOwn_kept HG1.out.ins hb2) hbl
        have HX3 : Hid _ := enOwn_kept hox hbl
        have hbb := (hb2.trans (hbl.mono hz2))
        have HB3 : Hid (Below w.heap.size w (w2.alloc (.cells #[.string (esAt l j).e.key, .int .i64 (esAt l j).e.til, .int .i64 (esAt l j).e.kind, .string (esAt l j).e.text, .slice al (esAt l j).e.list.length cl, .slice as_ (esAt l j).e.scores.length cs, .slice af (esAt l j).e.fields.length cf] 53))) := HB1.out.trans (hbb.mono HB1.out.size)
        have HC3 : Hid (Below (w.heap.size + 1) W1 (w2.alloc (.cells #[.string (esAt l j).e.key, .int .i64 (esAt l j).e.til, .int .i64 (esAt l j).e.kind, .string (esAt l j).e.text, .slice al (esAt l j).e.list.length cl, .slice as_ (esAt l j).e.scores.length cs, .slice af (esAt l j).e.fields.length cf] 53))) := hbb.mono (by omega)
        have hz3 : (w2.alloc (.cells #[.string (esAt l j).e.key, .int .i64 (esAt l j).e.til, .int .i64 (esAt l j).e.kind, .string (esAt l j).e.text, .slice al (esAt l j).e.list.length cl, .slice as_ (esAt l j).e.scores.length cs, .slice af (esAt l j).e.fields.length cf] 53)).heap.size = w2.heap.size + 1 := by simp
        have HZ3 : Hid _ := hz3
        have HZ2 : Hid _ := hz2
        clear hbl hz3 hz2 hox hb2 hbb
        refine wpAnyH_ready (rs := [8]) (by kernel_rfl) (by simp) ?_
        refine AllReadyH.cons rfl (fun K hK => ?_) AllReadyH.nil
        go_simp
        refine hK.out _ _ ?_ (fun hHeld => ?_)
        · exact HS.out _ HC3.out
        clear hK K
        try simp only [Act.put, List.setIfInBounds_toArray, List.set_cons_succ, List.set_cons_zero]
        refine wpAnyH_ready (rs := [9]) (by kernel_rfl) (by simp) ?_
        refine AllReadyH.cons rfl (fun K hK => ?_) AllReadyH.nil
        refine step_append_R (c := rowC) (d := some 24) rfl rfl (.tmp 16) (.tmp 23) 26 rfl (w.heap.size + 3) 53 i0 _ 7 120 Tryz.underlying26 hi0 hz0 hz1 hz2 rfl (by decide) _ _ _ rfl HU3.out _ rfl [(⟨(esAt l j).e, al, cl, as_, cs, af, cf⟩ : Row)] (row_one_at (heap_alloc_new w2 _)) rowC_len rowC_one (by unfold maxLen; simp; omega) (by simp; omega) (by have h1 := HZ3.out; have h2 := HZ2.out; omega) ?_; intro u4 w4 ho4 hg4; have HC4 : Hid (Below (w.heap.size + 1) W1 w4) := HC3.out.grown hg4 (by have := HC3.out.size; omega) (fun k hk => by have := World.ownsRow.lt HG1.out.rows k hk; omega)
        refine hK.out _ _ ?_ (fun hHeld => ?_)
        · exact HS.out _ HC4.out
        clear hK K
        (try simp only [Act.put]); (try simp only [List.setIfInBounds_toArray]); (try simp only [List.set_cons_succ]); (try simp only [List.set_cons_zero])
        have QO4 : Hid (w4.heap[w.heap.size + 1 + 1]? = _) := (hg4.block _ (Array.getElem?_eq_some_iff.1 QO3.out).1 (gr_ne HG1.out (.inl (by omega)))).trans QO3.out
        have QR4 : Hid (w4.heap[w.heap.size + 1]? = _) := (hg4.block _ (Array.getElem?_eq_some_iff.1 QR3.out).1 (gr_ne HG1.out (.inl (by omega)))).trans QR3.out
        have hgr := gr_add (x := (⟨(esAt l j).e, al, cl, as_, cs, af, cf⟩ : Row)) (w1 := w2) HU3.out HE3.out HX3.out (by rw [HZ3.out]; omega) (by simpa using ho4) hg4
        have hB4 : Below w.heap.size w w4 := HB3.out.grown hg4 HB3.out.size (fun k hk => by have := World.ownsRow.lt HG1.out.rows k hk; omega)
        obtain ⟨a4, c4, rfl⟩ := readsR_shape (gr_reads hgr).rows
        have HGR : Hid _ := hgr
        have HB4 : Hid _ := hB4
        have o4 : w4.cell? ⟨w.heap.size + 1 + 1, 1, none⟩ = some u := by rw [cell_of_row _ _ _ _ _ _ QO4.out]; rfl
        have f4 : ∀ o, w4.frozen? ⟨w.heap.size + 1 + 1, o, none⟩ = false := fun o => by simp [World.frozen?, QO4.out]
        clear hgr hB4 ho4 hg4
        refine takeH (i := 10) (d := (some 25)) (v := ?_) rfl rfl (by kernel_rfl) (by kernel_rfl) (by kernel_rfl) (fun _ _ _ h => h) (by kernel_rfl) ?_ (by assumption) ?_
        rotate_left
        · (intro w hSw; (try dsimp only at hSw); go_simp; try with_reducible rfl)
        try simp only [Act.put, List.setIfInBounds_toArray, List.set_cons_succ, List.set_cons_zero]
        refine wpAnyH_ready (rs := [11]) (by kernel_rfl) (by simp) ?_
        refine AllReadyH.cons rfl (fun K hK => ?_) AllReadyH.nil
        go_simp
        refine hK.out _ _ ?_ (fun hHeld => ?_)
        · exact HS.out _ (HC4.out.setCell (p := ⟨w.heap.size + 1 + 1, 1, none⟩) (by show w.heap.size + 1 ≤ w.heap.size + 1 + 1; omega) _)
        clear hK K
        try simp only [Act.put, List.setIfInBounds_toArray, List.set_cons_succ, List.set_cons_zero]
        refine wpAnyH_done (by kernel_rfl) ?_ _
        have R1 : Hid _ := gr_cell HGR.out ⟨w.heap.size + 1 + 1, 1, none⟩ (.slice a4 (ys ++ [(⟨(esAt l j).e, al, cl, as_, cs, af, cf⟩ : Row)]).length c4) (by show w.heap.size + 1 + 1 < _; omega)
        have R2 : Hid (Below w.heap.size w (w4.setCell ⟨w.heap.size + 1 + 1, 1, none⟩ (.slice a4 (ys ++ [(⟨(esAt l j).e, al, cl, as_, cs, af, cf⟩ : Row)]).length c4))) := HB4.out.setCell (p := ⟨w.heap.size + 1 + 1, 1, none⟩) (by show w.heap.size ≤ w.heap.size + 1 + 1; omega) _
        have R3 : Hid ((w4.setCell ⟨w.heap.size + 1 + 1, 1, none⟩ (.slice a4 (ys ++ [(⟨(esAt l j).e, al, cl, as_, cs, af, cf⟩ : Row)]).length c4)).heap[w.heap.size + 1 + 1]? = some (.cells #[.int .i64 n, .slice a4 (ys ++ [(⟨(esAt l j).e, al, cl, as_, cs, af, cf⟩ : Row)]).length c4] 28 (0, 0))) := by
          show _ = _
          rw [heap_setCell_same _ (w.heap.size + 1 + 1) 1 _ _ _ QO4.out]; rfl
        have R4 : Hid ((w4.setCell ⟨w.heap.size + 1 + 1, 1, none⟩ (.slice a4 (ys ++ [(⟨(esAt l j).e, al, cl, as_, cs, af, cf⟩ : Row)]).length c4)).heap[w.heap.size + 1]? = _) := (Below.heap_setCell _ _ _ _ (by show w.heap.size + 1 ≠ w.heap.size + 1 + 1; omega)).trans QR4.out
        have QP4 : Hid (w4.heap[w.heap.size]? = _) := (HC4.out.block _ (by omega)).trans Q0.out
        have R7 : Hid ((w4.setCell ⟨w.heap.size + 1 + 1, 1, none⟩ (.slice a4 (ys ++ [(⟨(esAt l j).e, al, cl, as_, cs, af, cf⟩ : Row)]).length c4)).heap[w.heap.size]? = _) := (Below.heap_setCell _ _ _ _ (by show w.heap.size ≠ w.heap.size + 1 + 1; omega)).trans QP4.out
        have R5 : Hid ((ys ++ [(⟨(esAt l j).e, al, cl, as_, cs, af, cf⟩ : Row)]).map Row.e = (l.take (j + 1)).map Row.e) := by
          show _ = _
          rw [List.map_append, HY.out, take_es hlt, List.map_append]; rfl
        have R6 : (ys ++ [(⟨(esAt l j).e, al, cl, as_, cs, af, cf⟩ : Row)]).length = j + 1 := by rw [List.length_append, hys]; rfl
        rw [R6] at R1 R2 R3 R4 R7
        clear o4 f4 R6
        go_wp2_with fail
        go_roundw
        case rel => exact ⟨j + 1, _, _, hlt, by go_num, R5, R3, R4, R7, R1.out, R2.out⟩
        case measure => simp [intOf]; omega
      · go_simp
        refine (l4Entry_any (esAt l j).e _ _ _ _ HI.out hsm).mono ?_
        rintro x w2 ⟨⟨ul, us, uf, rfl, hox⟩, hb2⟩
        refine hK.out _ _ ?_ (fun hHeld => ?_)
        · exact HS.out _ (hb2.mono (by omega))
        clear hK K
        (try simp only [Act.put]); (try simp only [List.setIfInBounds_toArray]); (try simp only [List.set_cons_succ]); (try simp only [List.set_cons_zero])
        have o2 : w2.cell? ⟨w.heap.size + 1 + 1, 1, none⟩ = some u := (hb2.cell (p := ⟨w.heap.size + 1 + 1, 1, none⟩) (by show w.heap.size + 1 + 1 < _; omega)).trans o1
        refine wpAnyH_ready (rs := [1, 8]) (by kernel_rfl) (by simp) ?_
        refine AllReadyH.cons rfl (fun K hK => ?_) (AllReadyH.cons rfl (fun K hK => ?_) AllReadyH.nil)
        · go_simp
          refine hK.out _ _ ?_ (fun hHeld => ?_)
          · exact hHeld
          clear hK K
          (try simp only [Act.put]); (try simp only [List.setIfInBounds_toArray]); (try simp only [List.set_cons_succ]); (try simp only [List.set_cons_zero])
          obtain ⟨al, cl, as_, cs, af, cf, rfl, rfl, rfl⟩ := enReads_shape (enOwn_reads hox)
          have hz2 := hb2.size
          have hbl : Below w2.heap.size w2 (w2.alloc (.cells #[.string (esAt l j).e.key, .int .i64 (esAt l j).e.til, .int .i64 (esAt l j).e.kind, .string (esAt l j).e.text, .slice al (esAt l j).e.list.length cl, .slice as_ (esAt l j).e.scores.length cs, .slice af (esAt l j).e.fields.length cf] 53)) := (Below.refl _ w2).alloc (Nat.le_refl _) _
          have QO3 : Hid ((w2.alloc (.cells #[.string (esAt l j).e.key, .int .i64 (esAt l j).e.til, .int .i64 (esAt l j).e.kind, .string (esAt l j).e.text, .slice al (esAt l j).e.list.length cl, .slice as_ (esAt l j).e.scores.length cs, .slice af (esAt l j).e.fields.length cf] 53)).heap[w.heap.size + 1 + 1]? = _) := (hbl.block _ (by omega)).trans ((hb2.block _ (by omega)).trans QO.out)
          have QR3 : Hid ((w2.alloc (.cells #[.string (esAt l j).e.key, .int .i64 (esAt l j).e.til, .int .i64 (esAt l j).e.kind, .string (esAt l j).e.text, .slice al (esAt l j).e.list.length cl, .slice as_ (esAt l j).e.scores.length cs, .slice af (esAt l j).e.fields.length cf] 53)).heap[w.heap.size + 1]? = _) := (hbl.block _ (by omega)).trans ((hb2.block _ (by omega)).trans QR.out)
          have HU3 : Hid _ := ownsR_kept (ownsR_kept HG1.out.rows hb2) hbl
          have HE3 : Hid _ := ensOwn_kept (ensOwn_kept HG1.out.ins hb2) hbl
          have HX3 : Hid _ := enOwn_kept hox hbl
          have hbb := (hb2.trans (hbl.mono hz2))
          have HB3 : Hid (Below w.heap.size w (w2.alloc (.cells #[.string (esAt l j).e.key, .int .i64 (esAt l j).e.til, .int .i64 (esAt l j).e.kind, .string (esAt l j).e.text, .slice al (esAt l j).e.list.length cl, .slice as_ (esAt l j).e.scores.length cs, .slice af (esAt l j).e.fields.length cf] 53))) := HB1.out.trans (hbb.mono HB1.out.size)
          have HC3 : Hid (Below (w.heap.size + 1) W1 (w2.alloc (.cells #[.string (esAt l j).e.key, .int .i64 (esAt l j).e.til, .int .i64 (esAt l j).e.kind, .string (esAt l j).e.text, .slice al (esAt l j).e.list.length cl, .slice as_ (esAt l j).e.scores.length cs, .slice af (esAt l j).e.fields.length cf] 53))) := hbb.mono (by omega)
          have hz3 : (w2.alloc (.cells #[.string (esAt l j).e.key, .int .i64 (esAt l j).e.til, .int .i64 (esAt l j).e.kind, .string (esAt l j).e.text, .slice al (esAt l j).e.list.length cl, .slice as_ (esAt l j).e.scores.length cs, .slice af (esAt l j).e.fields.length cf] 53)).heap.size = w2.heap.size + 1 := by simp
          have HZ3 : Hid _ := hz3
          have HZ2 : Hid _ := hz2
          clear hbl hz3 hz2 hox hb2 hbb
          refine wpAnyH_ready (rs := [8]) (by kernel_rfl) (by simp) ?_
          refine AllReadyH.cons rfl (fun K hK => ?_) AllReadyH.nil
          go_simp
          refine hK.out _ _ ?_ (fun hHeld => ?_)
          · exact HS.out _ HC3.out
          clear hK K
          try simp only [Act.put, List.setIfInBounds_toArray, List.set_cons_succ, List.set_cons_zero]
          refine wpAnyH_ready (rs := [9]) (by kernel_rfl) (by simp) ?_
          refine AllReadyH.cons rfl (fun K hK => ?_) AllReadyH.nil
          refine step_append_R (c := rowC) (d := some 24) rfl rfl (.tmp 16) (.tmp 23) 26 rfl (w.heap.size + 3) 53 i0 _ 7 120 Tryz.underlying26 hi0 hz0 hz1 hz2 rfl (by decide) _ _ _ rfl HU3.out _ rfl [(⟨(esAt l j).e, al, cl, as_, cs, af, cf⟩ : Row)] (row_one_at (heap_alloc_new w2 _)) rowC_len rowC_one (by unfold maxLen; simp; omega) (by simp; omega) (by have h1 := HZ3.out; have h2 := HZ2.out; omega) ?_; intro u4 w4 ho4 hg4; have HC4 : Hid (Below (w.heap.size + 1) W1 w4) := HC3.out.grown hg4 (by have := HC3.out.size; omega) (fun k hk => by have := World.ownsRow.lt HG1.out.rows k hk; omega)
          refine hK.out _ _ ?_ (fun hHeld => ?_)
          · exact HS.out _ HC4.out
          clear hK K
          (try simp only [Act.put]); (try simp only [List.setIfInBounds_toArray]); (try simp only [List.set_cons_succ]); (try simp only [List.set_cons_zero])
          have QO4 : Hid (w4.heap[w.heap.size + 1 + 1]? = _) := (hg4.block _ (Array.getElem?_eq_some_iff.1 QO3.out).1 (gr_ne HG1.out (.inl (by omega)))).trans QO3.out
          have QR4 : Hid (w4.heap[w.heap.size + 1]? = _) := (hg4.block _ (Array.getElem?_eq_some_iff.1 QR3.out).1 (gr_ne HG1.out (.inl (by omega)))).trans QR3.out
          have hgr := gr_add (x := (⟨(esAt l j).e, al, cl, as_, cs, af, cf⟩ : Row)) (w1 := w2) HU3.out HE3.out HX3.out (by rw [HZ3.out]; omega) (by simpa using ho4) hg4
          have hB4 : Below w.heap.size w w4 := HB3.out.grown hg4 HB3.out.size (fun k hk => by have := World.ownsRow.lt HG1.out.rows k hk; omega)
          obtain ⟨a4, c4, rfl⟩ := readsR_shape (gr_reads hgr).rows
          have HGR : Hid _ := hgr
          have HB4 : Hid _ := hB4
          have o4 : w4.cell? ⟨w.heap.size + 1 + 1, 1, none⟩ = some u := by rw [cell_of_row _ _ _ _ _ _ QO4.out]; rfl
          have f4 : ∀ o, w4.frozen? ⟨w.heap.size + 1 + 1, o, none⟩ = false := fun o => by simp [World.frozen?, QO4.out]
          clear hgr hB4 ho4 hg4
          refine takeH (i := 10) (d := (some 25)) (v := ?_) rfl rfl (by kernel_rfl) (by kernel_rfl) (by kernel_rfl) (fun _ _ _ h => h) (by kernel_rfl) ?_ (by assumption) ?_
          rotate_left
          · (intro w hSw; (try dsimp only at hSw); go_simp; try with_reducible rfl)
          try simp only [Act.put, List.setIfInBounds_toArray, List.set_cons_succ, List.set_cons_zero]
          refine wpAnyH_ready (rs := [11]) (by kernel_rfl) (by simp) ?_
          refine AllReadyH.cons rfl (fun K hK => ?_) AllReadyH.nil
          go_simp
          refine hK.out _ _ ?_ (fun hHeld => ?_)
          · exact HS.out _ (HC4.out.setCell (p := ⟨w.heap.size + 1 + 1, 1, none⟩) (by show w.heap.size + 1 ≤ w.heap.size + 1 + 1; omega) _)
          clear hK K
          try simp only [Act.put, List.setIfInBounds_toArray, List.set_cons_succ, List.set_cons_zero]
          refine wpAnyH_done (by kernel_rfl) ?_ _
          have R1 : Hid _ := gr_cell HGR.out ⟨w.heap.size + 1 + 1, 1, none⟩ (.slice a4 (ys ++ [(⟨(esAt l j).e, al, cl, as_, cs, af, cf⟩ : Row)]).length c4) (by show w.heap.size + 1 + 1 < _; omega)
          have R2 : Hid (Below w.heap.size w (w4.setCell ⟨w.heap.size + 1 + 1, 1, none⟩ (.slice a4 (ys ++ [(⟨(esAt l j).e, al, cl, as_, cs, af, cf⟩ : Row)]).length c4))) := HB4.out.setCell (p := ⟨w.heap.size + 1 + 1, 1, none⟩) (by show w.heap.size ≤ w.heap.size + 1 + 1; omega) _
          have R3 : Hid ((w4.setCell ⟨w.heap.size + 1 + 1, 1, none⟩ (.slice a4 (ys ++ [(⟨(esAt l j).e, al, cl, as_, cs, af, cf⟩ : Row)]).length c4)).heap[w.heap.size + 1 + 1]? = some (.cells #[.int .i64 n, .slice a4 (ys ++ [(⟨(esAt l j).e, al, cl, as_, cs, af, cf⟩ : Row)]).length c4] 28 (0, 0))) := by
            show _ = _
            rw [heap_setCell_same _ (w.heap.size + 1 + 1) 1 _ _ _ QO4.out]; rfl
          have R4 : Hid ((w4.setCell ⟨w.heap.size + 1 + 1, 1, none⟩ (.slice a4 (ys ++ [(⟨(esAt l j).e, al, cl, as_, cs, af, cf⟩ : Row)]).length c4)).heap[w.heap.size + 1]? = _) := (Below.heap_setCell _ _ _ _ (by show w.heap.size + 1 ≠ w.heap.size + 1 + 1; omega)).trans QR4.out
          have QP4 : Hid (w4.heap[w.heap.size]? = _) := (HC4.out.block _ (by omega)).trans Q0.out
          have R7 : Hid ((w4.setCell ⟨w.heap.size + 1 + 1, 1, none⟩ (.slice a4 (ys ++ [(⟨(esAt l j).e, al, cl, as_, cs, af, cf⟩ : Row)]).length c4)).heap[w.heap.size]? = _) := (Below.heap_setCell _ _ _ _ (by show w.heap.size ≠ w.heap.size + 1 + 1; omega)).trans QP4.out
          have R5 : Hid ((ys ++ [(⟨(esAt l j).e, al, cl, as_, cs, af, cf⟩ : Row)]).map Row.e = (l.take (j + 1)).map Row.e) := by
            show _ = _
            rw [List.map_append, HY.out, take_es hlt, List.map_append]; rfl
          have R6 : (ys ++ [(⟨(esAt l j).e, al, cl, as_, cs, af, cf⟩ : Row)]).length = j + 1 := by rw [List.length_append, hys]; rfl
          rw [R6] at R1 R2 R3 R4 R7
          clear o4 f4 R6
          go_wp2_with fail
          go_roundw
          case rel => exact ⟨j + 1, _, _, hlt, by go_num, R5, R3, R4, R7, R1.out, R2.out⟩
          case measure => simp [intOf]; omega
        · 
          obtain ⟨al, cl, as_, cs, af, cf, rfl, rfl, rfl⟩ := enReads_shape (enOwn_reads hox)
          have hz2 := hb2.size
          have hbl : Below w2.heap.size w2 (w2.alloc (.cells #[.string (esAt l j).e.key, .int .i64 (esAt l j).e.til, .int .i64 (esAt l j).e.kind, .string (esAt l j).e.text, .slice al (esAt l j).e.list.length cl, .slice as_ (esAt l j).e.scores.length cs, .slice af (esAt l j).e.fields.length cf] 53)) := (Below.refl _ w2).alloc (Nat.le_refl _) _
          have QO3 : Hid ((w2.alloc (.cells #[.string (esAt l j).e.key, .int .i64 (esAt l j).e.til, .int .i64 (esAt l j).e.kind, .string (esAt l j).e.text, .slice al (esAt l j).e.list.length cl, .slice as_ (esAt l j).e.scores.length cs, .slice af (esAt l j).e.fields.length cf] 53)).heap[w.heap.size + 1 + 1]? = _) := (hbl.block _ (by omega)).trans ((hb2.block _ (by omega)).trans QO.out)
          have QR3 : Hid ((w2.alloc (.cells #[.string (esAt l j).e.key, .int .i64 (esAt l j).e.til, .int .i64 (esAt l j).e.kind, .string (esAt l j).e.text, .slice al (esAt l j).e.list.length cl, .slice as_ (esAt l j).e.scores.length cs, .slice af (esAt l j).e.fields.length cf] 53)).heap[w.heap.size + 1]? = _) := (hbl.block _ (by omega)).trans ((hb2.block _ (by omega)).trans QR.out)
          have HU3 : Hid _ := ownsR_kept (ownsR_kept HG1.out.rows hb2) hbl
          have HE3 : Hid _ := ensOwn_kept (ensOwn_kept HG1.out.ins hb2) hbl
          have HX3 : Hid _ := enOwn_kept hox hbl
          have hbb := (hb2.trans (hbl.mono hz2))
          have HB3 : Hid (Below w.heap.size w (w2.alloc (.cells #[.string (esAt l j).e.key, .int .i64 (esAt l j).e.til, .int .i64 (esAt l j).e.kind, .string (esAt l j).e.text, .slice al (esAt l j).e.list.length cl, .slice as_ (esAt l j).e.scores.length cs, .slice af (esAt l j).e.fields.length cf] 53))) := HB1.out.trans (hbb.mono HB1.out.size)
          have HC3 : Hid (Below (w.heap.size + 1) W1 (w2.alloc (.cells #[.string (esAt l j).e.key, .int .i64 (esAt l j).e.til, .int .i64 (esAt l j).e.kind, .string (esAt l j).e.text, .slice al (esAt l j).e.list.length cl, .slice as_ (esAt l j).e.scores.length cs, .slice af (esAt l j).e.fields.length cf] 53))) := hbb.mono (by omega)
          have hz3 : (w2.alloc (.cells #[.string (esAt l j).e.key, .int .i64 (esAt l j).e.til, .int .i64 (esAt l j).e.kind, .string (esAt l j).e.text, .slice al (esAt l j).e.list.length cl, .slice as_ (esAt l j).e.scores.length cs, .slice af (esAt l j).e.fields.length cf] 53)).heap.size = w2.heap.size + 1 := by simp
          have HZ3 : Hid _ := hz3
          have HZ2 : Hid _ := hz2
          clear hbl hz3 hz2 hox hb2 hbb
          go_simp
          refine hK.out _ _ ?_ (fun hHeld => ?_)
          · exact HS.out _ HC3.out
          clear hK K
          (try simp only [Act.put]); (try simp only [List.setIfInBounds_toArray]); (try simp only [List.set_cons_succ]); (try simp only [List.set_cons_zero])
          have o3 : (w2.alloc (.cells #[.string (esAt l j).e.key, .int .i64 (esAt l j).e.til, .int .i64 (esAt l j).e.kind, .string (esAt l j).e.text, .slice al (esAt l j).e.list.length cl, .slice as_ (esAt l j).e.scores.length cs, .slice af (esAt l j).e.fields.length cf] 53)).cell? ⟨w.heap.size + 1 + 1, 1, none⟩ = some u := by rw [cell_of_row _ _ _ _ _ _ QO3.out]; rfl
          refine wpAnyH_ready (rs := [1]) (by kernel_rfl) (by simp) ?_
          refine AllReadyH.cons rfl (fun K hK => ?_) AllReadyH.nil
          go_simp
          refine hK.out _ _ ?_ (fun hHeld => ?_)
          · exact HS.out _ HC3.out
          clear hK K
          try simp only [Act.put, List.setIfInBounds_toArray, List.set_cons_succ, List.set_cons_zero]
          refine wpAnyH_ready (rs := [9]) (by kernel_rfl) (by simp) ?_
          refine AllReadyH.cons rfl (fun K hK => ?_) AllReadyH.nil
          refine step_append_R (c := rowC) (d := some 24) rfl rfl (.tmp 16) (.tmp 23) 26 rfl (w.heap.size + 3) 53 i0 _ 7 120 Tryz.underlying26 hi0 hz0 hz1 hz2 rfl (by decide) _ _ _ rfl HU3.out _ rfl [(⟨(esAt l j).e, al, cl, as_, cs, af, cf⟩ : Row)] (row_one_at (heap_alloc_new w2 _)) rowC_len rowC_one (by unfold maxLen; simp; omega) (by simp; omega) (by have h1 := HZ3.out; have h2 := HZ2.out; omega) ?_; intro u4 w4 ho4 hg4; have HC4 : Hid (Below (w.heap.size + 1) W1 w4) := HC3.out.grown hg4 (by have := HC3.out.size; omega) (fun k hk => by have := World.ownsRow.lt HG1.out.rows k hk; omega)
          refine hK.out _ _ ?_ (fun hHeld => ?_)
          · exact HS.out _ HC4.out
          clear hK K
          (try simp only [Act.put]); (try simp only [List.setIfInBounds_toArray]); (try simp only [List.set_cons_succ]); (try simp only [List.set_cons_zero])
          have QO4 : Hid (w4.heap[w.heap.size + 1 + 1]? = _) := (hg4.block _ (Array.getElem?_eq_some_iff.1 QO3.out).1 (gr_ne HG1.out (.inl (by omega)))).trans QO3.out
          have QR4 : Hid (w4.heap[w.heap.size + 1]? = _) := (hg4.block _ (Array.getElem?_eq_some_iff.1 QR3.out).1 (gr_ne HG1.out (.inl (by omega)))).trans QR3.out
          have hgr := gr_add (x := (⟨(esAt l j).e, al, cl, as_, cs, af, cf⟩ : Row)) (w1 := w2) HU3.out HE3.out HX3.out (by rw [HZ3.out]; omega) (by simpa using ho4) hg4
          have hB4 : Below w.heap.size w w4 := HB3.out.grown hg4 HB3.out.size (fun k hk => by have := World.ownsRow.lt HG1.out.rows k hk; omega)
          obtain ⟨a4, c4, rfl⟩ := readsR_shape (gr_reads hgr).rows
          have HGR : Hid _ := hgr
          have HB4 : Hid _ := hB4
          have o4 : w4.cell? ⟨w.heap.size + 1 + 1, 1, none⟩ = some u := by rw [cell_of_row _ _ _ _ _ _ QO4.out]; rfl
          have f4 : ∀ o, w4.frozen? ⟨w.heap.size + 1 + 1, o, none⟩ = false := fun o => by simp [World.frozen?, QO4.out]
          clear hgr hB4 ho4 hg4
          refine takeH (i := 10) (d := (some 25)) (v := ?_) rfl rfl (by kernel_rfl) (by kernel_rfl) (by kernel_rfl) (fun _ _ _ h => h) (by kernel_rfl) ?_ (by assumption) ?_
          rotate_left
          · (intro w hSw; (try dsimp only at hSw); go_simp; try with_reducible rfl)
          try simp only [Act.put, List.setIfInBounds_toArray, List.set_cons_succ, List.set_cons_zero]
          refine wpAnyH_ready (rs := [11]) (by kernel_rfl) (by simp) ?_
          refine AllReadyH.cons rfl (fun K hK => ?_) AllReadyH.nil
          go_simp
          refine hK.out _ _ ?_ (fun hHeld => ?_)
          · exact HS.out _ (HC4.out.setCell (p := ⟨w.heap.size + 1 + 1, 1, none⟩) (by show w.heap.size + 1 ≤ w.heap.size + 1 + 1; omega) _)
          clear hK K
          try simp only [Act.put, List.setIfInBounds_toArray, List.set_cons_succ, List.set_cons_zero]
          refine wpAnyH_done (by kernel_rfl) ?_ _
          have R1 : Hid _ := gr_cell HGR.out ⟨w.heap.size + 1 + 1, 1, none⟩ (.slice a4 (ys ++ [(⟨(esAt l j).e, al, cl, as_, cs, af, cf⟩ : Row)]).length c4) (by show w.heap.size + 1 + 1 < _; omega)
          have R2 : Hid (Below w.heap.size w (w4.setCell ⟨w.heap.size + 1 + 1, 1, none⟩ (.slice a4 (ys ++ [(⟨(esAt l j).e, al, cl, as_, cs, af, cf⟩ : Row)]).length c4))) := HB4.out.setCell (p := ⟨w.heap.size + 1 + 1, 1, none⟩) (by show w.heap.size ≤ w.heap.size + 1 + 1; omega) _
          have R3 : Hid ((w4.setCell ⟨w.heap.size + 1 + 1, 1, none⟩ (.slice a4 (ys ++ [(⟨(esAt l j).e, al, cl, as_, cs, af, cf⟩ : Row)]).length c4)).heap[w.heap.size + 1 + 1]? = some (.cells #[.int .i64 n, .slice a4 (ys ++ [(⟨(esAt l j).e, al, cl, as_, cs, af, cf⟩ : Row)]).length c4] 28 (0, 0))) := by
            show _ = _
            rw [heap_setCell_same _ (w.heap.size + 1 + 1) 1 _ _ _ QO4.out]; rfl
          have R4 : Hid ((w4.setCell ⟨w.heap.size + 1 + 1, 1, none⟩ (.slice a4 (ys ++ [(⟨(esAt l j).e, al, cl, as_, cs, af, cf⟩ : Row)]).length c4)).heap[w.heap.size + 1]? = _) := (Below.heap_setCell _ _ _ _ (by show w.heap.size + 1 ≠ w.heap.size + 1 + 1; omega)).trans QR4.out
          have QP4 : Hid (w4.heap[w.heap.size]? = _) := (HC4.out.block _ (by omega)).trans Q0.out
          have R7 : Hid ((w4.setCell ⟨w.heap.size + 1 + 1, 1, none⟩ (.slice a4 (ys ++ [(⟨(esAt l j).e, al, cl, as_, cs, af, cf⟩ : Row)]).length c4)).heap[w.heap.size]? = _) := (Below.heap_setCell _ _ _ _ (by show w.heap.size ≠ w.heap.size + 1 + 1; omega)).trans QP4.out
          have R5 : Hid ((ys ++ [(⟨(esAt l j).e, al, cl, as_, cs, af, cf⟩ : Row)]).map Row.e = (l.take (j + 1)).map Row.e) := by
            show _ = _
            rw [List.map_append, HY.out, take_es hlt, List.map_append]; rfl
          have R6 : (ys ++ [(⟨(esAt l j).e, al, cl, as_, cs, af, cf⟩ : Row)]).length = j + 1 := by rw [List.length_append, hys]; rfl
          rw [R6] at R1 R2 R3 R4 R7
          clear o4 f4 R6
          go_wp2_with fail
          go_roundw
          case rel => exact ⟨j + 1, _, _, hlt, by go_num, R5, R3, R4, R7, R1.out, R2.out⟩
          case measure => simp [intOf]; omega
    · obtain rfl : j = l.length := by omega
      obtain ⟨au, cu, rfl⟩ := readsR_shape (gr_reads hG).rows
      have p9 : wr.cell? ⟨w.heap.size, 1, none⟩ = some (.slice ao l.length cap) := by rw [cell_of_row _ _ _ _ _ _ P0.out]; rfl
      have x2 := Q2.out
      have x1 := Q1.out
      have p0 : wr.cell? ⟨w.heap.size + 1 + 1, 0, none⟩ = some (.int .i64 n) := by rw [cell_of_row _ _ _ _ _ _ x2]; rfl
      have p1 : wr.cell? ⟨w.heap.size + 1 + 1, 1, none⟩ = some (.slice au ys.length cu) := by rw [cell_of_row _ _ _ _ _ _ x2]; rfl
      have r0 : wr.cell? ⟨w.heap.size + 1, 0, none⟩ = some (.int .i64 0) := by rw [cell_of_row _ _ _ _ _ _ x1]; rfl
      have r1 : wr.cell? ⟨w.heap.size + 1, 1, none⟩ = some (.slice none 0 0) := by rw [cell_of_row _ _ _ _ _ _ x1]; rfl
      have f1 : ∀ o, wr.frozen? ⟨w.heap.size + 1, o, none⟩ = false := fun o => by simp [World.frozen?, x1]
      clear x2 x1
      have hw := hB.size
      go_wp2_with fail
      have g1 := gr_cell (gr_cell hG ⟨w.heap.size + 1, 0, none⟩ (.int .i64 n) (by show w.heap.size + 1 < _; omega)) ⟨w.heap.size + 1, 1, none⟩ (.slice au ys.length cu) (by show w.heap.size + 1 < _; omega)
      have b1 := (hB.setCell (p := ⟨w.heap.size + 1, 0, none⟩) (by show w.heap.size ≤ w.heap.size + 1; omega) (.int .i64 n)).setCell (p := ⟨w.heap.size + 1, 1, none⟩) (by show w.heap.size ≤ w.heap.size + 1; omega) (.slice au ys.length cu)
      refine bodyPost_ret (results_cell_row rfl _ _ (w.heap.size + 1) 28 _ (0, 0) _ rfl (by rw [heap_setCell_same _ (w.heap.size + 1) 1 _ _ _ (heap_setCell_same _ (w.heap.size + 1) 0 _ _ _ Q1.out)]) Tryz.underlying28 rfl (by kernel_rfl)) rfl ?_
      exact ⟨⟨_, ys, rfl, by rw [HY.out, List.take_length], gr_base g1 (by omega)⟩, b1⟩
end Go.Proofs.YtooomgffcamijaaGreat
