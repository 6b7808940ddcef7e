/- The program's copy of items: new memory, grown by append. -/
import Derived.Test.YtbkllceceaedpaaItG
import Derived.Test.YtbkllceceaedpaaPrCl
import Derived.Test.YtbkllceceaedpaaTk
namespace Go.Proofs.Ytbkllceceaedpaa
open Go.RowKit
set_option linter.unusedVariables false

set_option maxHeartbeats 8000000 in
set_option maxRecDepth 100000 in
theorem copyItems_any (v : Value) (l : List ItRow) (w : World) (hr : ItsReads w v l) (hs : ItsSmall l) :
    Calls Try.prog 50 #[v] w fun e w' => (∃ u ys, e = .returned u ∧ ys.map ItRow.e = l.map ItRow.e ∧ ItG w' w.heap.size w'.heap.size u ys) ∧ Below w.heap.size w w' := by
  obtain ⟨ao, cap, rfl⟩ := readsR_shape hr.rows
  have hlen := hs.len
  obtain ⟨i0, hi0, hz0, hz1, hz2⟩ := info_parts itInfo
  go_enter Try.func50, Try.ntmps50
  go_wp2_with fail
  go_loopw [3, 8] (fun o i wr => ∃ (j : Nat) (ys : List ItRow), j ≤ l.length ∧ i = .int .i64 j ∧ Hid (ys.map ItRow.e = (l.take j).map ItRow.e) ∧ ItG wr w.heap.size wr.heap.size o ys ∧ Below w.heap.size w wr) (fun _ i _ => l.length - (intOf i).toNat)
  case atStart => exact ⟨0, [], Nat.zero_le _, rfl, rfl, itG_nil (Nat.le_refl _), Below.refl _ _⟩
  case round =>
    obtain ⟨j, ys, hj, rfl, HY, hG, hB⟩ := hrel
    by_cases hlt : j < l.length
    · obtain ⟨b, off, rfl, hb, hnc, hcm, hc⟩ := it_some hr.rows (by omega)
      obtain ⟨c0, c1, c2⟩ := it_cells hc hB hb hlt
      have hk1 : (j : Int) < (l.length : Int) := by omega
      have hin := itIn_kept (hr.ins _ (itAt_mem hlt)) hB
      have hsm := (hs.each _ (itAt_mem hlt)).len
      have hys : ys.length = j := by
        have := congrArg List.length HY.out
        rw [List.length_map, List.length_map, List.length_take] at this; omega
      clear hc hnc hcm
      go_wp2_with fail
      obtain ⟨W1, hW1⟩ : ∃ W, wr.alloc (.cells #[.int .i64 (itAt l j).e.t, .int .i64 (itAt l j).e.n, .slice (itAt l j).a (itAt l j).e.l.length (itAt l j).c] 59) = W := ⟨_, rfl⟩
      have hb1 : Below wr.heap.size wr W1.drew := by rw [← hW1]; exact ((Below.refl _ wr).alloc (Nat.le_refl _) _).drew
      have QB : Hid (W1.drew.heap[wr.heap.size]? = some (.cells (itC (itAt l j)).toArray 59 (0, 0))) := by show _ = _; rw [← hW1]; exact heap_alloc_new wr _
      have hz1' : W1.drew.heap.size = wr.heap.size + 1 := by rw [← hW1]; simp
      rw [hW1]
      clear hW1 c0 c1 c2
      have HS : Hid (∀ w' : World, w'.heap[wr.heap.size]? = some (.cells (itC (itAt l j)).toArray 59 (0, 0)) → (w'.cell? ⟨wr.heap.size, 0, none⟩ = some (.int .i64 (itAt l j).e.t) ∧ w'.cell? ⟨wr.heap.size, 1, none⟩ = some (.int .i64 (itAt l j).e.n) ∧ w'.cell? ⟨wr.heap.size, 2, none⟩ = some (.slice (itAt l j).a (itAt l j).e.l.length (itAt l j).c))) := fun w' h => ⟨by rw [cell_of_row _ _ _ _ _ _ h]; rfl, by rw [cell_of_row _ _ _ _ _ _ h]; rfl, by rw [cell_of_row _ _ _ _ _ _ h]; rfl⟩
      have HN0 : Hid (some wr.heap.size ≠ _) := itG_ne hG (.inr (Nat.le_refl _))
      have HG1 : Hid _ := itG_up hG hb1
      have HG0 : Hid _ := itG_kept hG hb1
      have HI : Hid _ := itIn_kept hin hb1
      have HB1 : Hid _ := hB.trans (hb1.mono hB.size)
      have HZ1 : Hid _ := hz1'
      have hbs := hB.size
      clear hb1 hz1' hin hB hG
      refine wp_region_held_drew (S := (fun w' => (w'.cell? ⟨wr.heap.size, 0, none⟩ = some (.int .i64 (itAt l j).e.t) ∧ w'.cell? ⟨wr.heap.size, 1, none⟩ = some (.int .i64 (itAt l j).e.n) ∧ w'.cell? ⟨wr.heap.size, 2, none⟩ = some (.slice (itAt l j).a (itAt l j).e.l.length (itAt l j).c)))) (by kernel_rfl) (by exact HS.out _ QB.out) (fun hHeld => ?_)
      generalize W1.drew = W2 at *
      refine takeH (i := 0) (d := (some 12)) (v := ?_) rfl rfl (by kernel_rfl) (by kernel_rfl) (by kernel_rfl) (fun _ _ _ h => h) (by kernel_rfl) ?_ (by assumption) ?_
      rotate_left
      · (intro w hSw; (try dsimp only at hSw); go_simp; try with_reducible rfl)
      try simp only [Act.put, List.setIfInBounds_toArray, List.set_cons_succ, List.set_cons_zero]
      refine takeH (i := 1) (d := (some 13)) (v := ?_) rfl rfl (by kernel_rfl) (by kernel_rfl) (by kernel_rfl) (fun _ _ _ h => h) (by kernel_rfl) ?_ (by assumption) ?_
      rotate_left
      · (intro w hSw; (try dsimp only at hSw); go_simp; try with_reducible rfl)
      try simp only [Act.put, List.setIfInBounds_toArray, List.set_cons_succ, List.set_cons_zero]
      refine takeH (i := 2) (d := (some 14)) (v := ?_) rfl rfl (by kernel_rfl) (by kernel_rfl) (by kernel_rfl) (fun _ _ _ h => h) (by kernel_rfl) ?_ (by assumption) ?_
      rotate_left
      · (intro w hSw; (try dsimp only at hSw); go_simp; try with_reducible rfl)
      try simp only [Act.put, List.setIfInBounds_toArray, List.set_cons_succ, List.set_cons_zero]
      refine takeH (i := 3) (d := (some 15)) (v := ?_) rfl rfl (by kernel_rfl) (by kernel_rfl) (by kernel_rfl) (fun _ _ _ h => h) (by kernel_rfl) ?_ (by assumption) ?_
      rotate_left
      · (intro w hSw; (try dsimp only at hSw); go_simp; try with_reducible rfl)
      try simp only [Act.put, List.setIfInBounds_toArray, List.set_cons_succ, List.set_cons_zero]
      refine takeH (i := 4) (d := (some 16)) (v := ?_) rfl rfl (by kernel_rfl) (by kernel_rfl) (by kernel_rfl) (fun _ _ _ h => h) (by kernel_rfl) ?_ (by assumption) ?_
      rotate_left
      · (intro w hSw; (try dsimp only at hSw); go_simp; try with_reducible rfl)
      try simp only [Act.put, List.setIfInBounds_toArray, List.set_cons_succ, List.set_cons_zero]
      refine wpAnyH_ready (rs := [5]) (by kernel_rfl) (by simp) ?_
      refine AllReadyH.cons rfl (fun K hK => ?_) AllReadyH.nil
      go_simp
      refine (prClone_any _ (itAt l j).e.l _ HI.out hsm).mono ?_; rintro e w2 ⟨u, rfl, hou, hb2⟩; obtain ⟨au, cu, rfl⟩ := readsR_shape (ownsR_reads prC_len hou); have hz2' := hb2.size
      refine hK.out _ _ ?_ (fun hHeld => ?_)
      · exact HS.out _ ((hb2.block _ (by rw [HZ1.out]; omega)).trans QB.out)
      clear hK K
      try simp only [Act.put, List.setIfInBounds_toArray, List.set_cons_succ, List.set_cons_zero]
      have hbl : Below w2.heap.size w2 (w2.alloc (.cells #[.int .i64 (itAt l j).e.t, .int .i64 (itAt l j).e.n, .slice au (itAt l j).e.l.length cu] 59)) := (Below.refl _ w2).alloc (Nat.le_refl _) _
      have QB3 : Hid ((w2.alloc (.cells #[.int .i64 (itAt l j).e.t, .int .i64 (itAt l j).e.n, .slice au (itAt l j).e.l.length cu] 59)).heap[wr.heap.size]? = some (.cells (itC (itAt l j)).toArray 59 (0, 0))) := (hbl.block _ (by have := HZ1.out; omega)).trans ((hb2.block _ (by rw [HZ1.out]; omega)).trans QB.out)
      have HU3 : Hid _ := ownR_kept (ownR_kept HG0.out.rows hb2) hbl
      have HE3 : Hid _ := itsOwn_kept (itsOwn_kept HG1.out.ins hb2) hbl
      have HX3 : Hid (PrOwn _ _ _ (ItRow.v ⟨(itAt l j).e, au, cu⟩) (itAt l j).e.l) := ownR_kept (ownR_of hou) hbl
      have HB3 : Hid _ := (HB1.out.trans (hb2.mono HB1.out.size)).trans (hbl.mono (Nat.le_trans HB1.out.size hz2'))
      have HZ2 : Hid _ := hz2'
      clear hbl hz2' hou hb2
      refine takeH (i := 6) (d := (some 18)) (v := ?_) rfl rfl (by kernel_rfl) (by kernel_rfl) (by kernel_rfl) (fun _ _ _ h => h) (by kernel_rfl) ?_ (by assumption) ?_
      rotate_left
      · (intro w hSw; (try dsimp only at hSw); go_simp; try with_reducible rfl)
      try simp only [Act.put, List.setIfInBounds_toArray, List.set_cons_succ, List.set_cons_zero]
      refine wpAnyH_ready (rs := [7]) (by kernel_rfl) (by simp) ?_
      refine AllReadyH.cons rfl (fun K hK => ?_) AllReadyH.nil
      go_simp
      refine hK.out _ _ ?_ (fun hHeld => ?_)
      · exact HS.out _ QB3.out
      clear hK K
      try simp only [Act.put, List.setIfInBounds_toArray, List.set_cons_succ, List.set_cons_zero]
      refine wpAnyH_ready (rs := [8]) (by kernel_rfl) (by simp) ?_
      refine AllReadyH.cons rfl (fun K hK => ?_) AllReadyH.nil
      refine step_append_R (c := itC) (d := some 20) rfl rfl (.tmp 12) (.tmp 19) 31 rfl w.heap.size 59 i0 _ 3 40 Try.underlying31 hi0 hz0 hz1 hz2 rfl (by decide) _ _ _ rfl HU3.out.1 _ rfl [(⟨(itAt l j).e, au, cu⟩ : ItRow)] (it_one_at (heap_alloc_new w2 _)) itC_len itC_one (by unfold maxLen; simp; omega) (by simp; omega) (by have h1 := HZ1.out; have h2 := HZ2.out; simp; omega) ?_; intro u4 w4 ho4 hg4; have QB4 : Hid (w4.heap[wr.heap.size]? = _) := (hg4.block _ (Array.getElem?_eq_some_iff.1 QB3.out).1 HN0.out).trans QB3.out
      refine hK.out _ _ ?_ (fun hHeld => ?_)
      · exact HS.out _ QB4.out
      clear hK K
      (try simp only [Act.put]); (try simp only [List.setIfInBounds_toArray]); (try simp only [List.set_cons_succ]); (try simp only [List.set_cons_zero])
      have hgr := itG_add (x := (⟨(itAt l j).e, au, cu⟩ : ItRow)) (hi := w2.heap.size) HU3.out HE3.out HX3.out HZ2.out (by simp) (by simpa using ho4) hg4
      have hB4 : Below w.heap.size w w4 := HB3.out.grown hg4 HB3.out.size (fun k hk => (ownR_in HU3.out k hk).1)
      refine takeH (i := 9) (d := (some 3)) (v := ?_) rfl rfl (by kernel_rfl) (by kernel_rfl) (by kernel_rfl) (fun _ _ _ h => h) (by kernel_rfl) ?_ (by assumption) ?_
      rotate_left
      · (intro w hSw; (try dsimp only at hSw); go_simp; try with_reducible rfl)
      try simp only [Act.put, List.setIfInBounds_toArray, List.set_cons_succ, List.set_cons_zero]
      refine wpAnyH_done (by kernel_rfl) ?_ _
      have R5 : Hid ((ys ++ [(⟨(itAt l j).e, au, cu⟩ : ItRow)]).map ItRow.e = (l.take (j + 1)).map ItRow.e) := it_get HY.out hlt _ rfl
      have HGR : Hid _ := hgr
      have HB4 : Hid _ := hB4
      clear hgr hB4 ho4 hg4
      go_wp2_with fail
      go_roundw
      case rel => exact ⟨j + 1, _, hlt, by go_num, R5, HGR.out, HB4.out⟩
      case measure => simp [intOf]; omega
    · obtain rfl : j = l.length := by omega
      rw [List.take_length] at HY
      go_wp2_with fail
      go_ret
      exact ⟨⟨_, _, rfl, HY.out, hG⟩, hB⟩
end Go.Proofs.Ytbkllceceaedpaa
