/- Several texts in one: GrA GrB. -/
import Derived.Test.YtooomgffcamijaaGreatMkW1
import Derived.Test.YtooomgffcamijaaGreatEnW3
import Derived.Test.YtooomgffcamijaaGreatAp
import Derived.Test.YtooomgffcamijaaGreatAq
/- Rows of entries that grow by append: the outer block may move behind its entries' lists. -/
namespace Go.Proofs.YtooomgffcamijaaGreat
open Go.RowKit
set_option linter.unusedVariables false

/-- a result that grows: its outer block and all of its entries' lists lie from lo on -/
structure Gr (w : World) (lo : Nat) (v : Value) (ys : List Row) : Prop where
  rows : OwnsR rowC 7 53 w lo v ys
  ins : EnsOwn w lo w.heap.size ys
theorem gr_kept {w w' : World} {lo : Nat} {v : Value} {ys : List Row} (h : Gr w lo v ys) (hb : Below w.heap.size w w') : Gr w' lo v ys :=
  ⟨ownsR_kept h.rows hb, ensOwn_up (ensOwn_kept h.ins hb) hb.size⟩
theorem gr_nil {w : World} {lo : Nat} (h : lo ≤ w.heap.size) : Gr w lo (.slice none 0 0) [] :=
  ⟨⟨rfl, .inl ⟨rfl, rfl⟩⟩, h⟩
theorem gr_own {w : World} {lo : Nat} {v : Value} {ys : List Row} (h : Gr w lo v ys) : OwnR rowC 7 53 w lo w.heap.size v ys := ownR_of h.rows
theorem gr_reads {w : World} {lo : Nat} {v : Value} {ys : List Row} (h : Gr w lo v ys) : EsReads w v ys :=
  ⟨ownsR_reads rowC_len h.rows, ensOwn_ins h.ins⟩
/-- one entry more: its lists are new (from m on), the literal is laid, then the append -/
theorem gr_add {w1 w2 w' : World} {lo m : Nat} {v v' : Value} {ys : List Row} {x : Row} (hr : OwnsR rowC 7 53 w2 lo v ys) (hi : EnsOwn w2 lo m ys) (hx : EnOwn w2 m w1.heap.size x.vl x.vs x.vf x.e) (h12 : w1.heap.size ≤ w2.heap.size)
    (ha : w'.ownsRow lo 53 7 v' (ys.length + 1) (ys.flatMap rowC ++ rowC x)) (hg : w2.grownBy w' v.ownBlock) : Gr w' lo v' (ys ++ [x]) := by
  refine ⟨?_, ?_⟩
  · unfold OwnsR
    rw [List.length_append, List.flatMap_append]
    simpa using ha
  · have hall : EnsOwn w2 lo w2.heap.size (ys ++ [x]) := ensOwn_up (ensOwn_snoc hi hx) h12
    have hsz : w2.heap.size ≤ w'.heap.size := hg.size
    rcases hr.2 with ⟨rfl, _⟩ | ⟨g, cap, cur, rfl, _, hrow, _⟩
    · exact ensOwn_up (ensOwn_within hall (within_grown (lo := 0) (hi := 0) hg (fun k hk => by cases hk)) (Nat.zero_le _)) hsz
    · exact ensOwn_up (ensOwn_at hall (within_grown hg (fun k hk => by
        have e : g = k := by simpa [Value.ownBlock] using hk
        omega)) ⟨cur, hrow⟩) hsz
theorem gr_cell {w : World} {lo : Nat} {v : Value} {ys : List Row} (h : Gr w lo v ys) (a : Addr) (u : Value) (ha : a.block < lo) : Gr (w.setCell a u) lo v ys :=
  ⟨(ownR_cell (gr_own h) a u ha).1, by rw [setCell_size]; exact ensOwn_cell h.ins a u ha⟩
theorem gr_ne {w : World} {lo k : Nat} {v : Value} {ys : List Row} (h : Gr w lo v ys) (hk : k < lo ∨ w.heap.size ≤ k) : some k ≠ v.ownBlock := fun e => by
  have := World.ownsRow.lt h.rows k e.symm
  omega
end Go.Proofs.YtooomgffcamijaaGreat
/- The program's copyBase: a base whose rows grow by append. -/
namespace Go.Proofs.YtooomgffcamijaaGreat
open Go.RowKit
set_option linter.unusedVariables false

theorem enInfo : (Tryz.prog.info? 53).map (fun i => (i.zero, i.size, i.bytes)) = some (some (.agg #[.string ByteArray.empty, .int .i64 0, .int .i64 0, .string ByteArray.empty, .slice none 0 0, .slice none 0 0, .slice none 0 0]), 7, 120) := by kernel_rfl
theorem row_one_at {w : World} {B : Nat} {x : Row} {t : TypeId} {fr : Nat × Nat} (h : w.heap[B]? = some (.cells (rowC x).toArray t fr)) : ReadsR rowC 7 w (.slice (some ⟨B, 0, none⟩) 1 1) [x] := by
  refine .inr ⟨by simp, B, 0, 1, rfl, (Array.getElem?_eq_some_iff.1 h).1, by simp, by unfold maxLen; omega, fun k y hk => ?_⟩
  match k, hk with
  | 0, hk =>
    cases hk
    intro j u hu
    rw [Nat.zero_mul, Nat.zero_add, cell_of_row _ _ _ _ _ _ h]
    simpa using hu

theorem ensOwn_base {w : World} {lo lo' hi : Nat} (h1 : lo' ≤ lo) : ∀ {l : List Row}, EnsOwn w lo hi l → EnsOwn w lo' hi l
  | [], h => Nat.le_trans h1 h
  | x :: l, ⟨m, h2, ⟨a, b, h3, h4, h5, h6, h7, h8⟩, h9⟩ => ⟨m, Nat.le_trans h1 h2, ⟨a, b, Nat.le_trans h1 h3, h4, h5, ⟨owns_base h6.1 h1, h6.2⟩, h7, h8⟩, h9⟩
theorem gr_base {w : World} {lo lo' : Nat} {v : Value} {ys : List Row} (h : Gr w lo v ys) (h1 : lo' ≤ lo) : Gr w lo' v ys := ⟨ownsR_base h.rows h1, ensOwn_base h1 h.ins⟩
set_option maxHeartbeats 8000000 in
set_option maxRecDepth 100000 in
theorem copyBase_any (n : Int) (v : Value) (l : List Row) (w : World) (hr : EsReads w v l) (hs : EsSmall l) :
    Calls Tryz.prog 18 #[bsV n v] w fun x w' => (∃ u ys, x = .returned (bsV n u) ∧ ys.map Row.e = l.map Row.e ∧ Gr w' w.heap.size u ys) ∧ Below w.heap.size w w' := by
  obtain ⟨ao, cap, rfl⟩ := readsR_shape hr.rows
  have hlen := hs.len
  obtain ⟨i0, hi0, hz0, hz1, hz2⟩ := info_parts enInfo
  go_enter Tryz.func18, Tryz.ntmps18
  go_wp2_with fail
  obtain ⟨w0, hW⟩ : ∃ W, ((w.alloc (.cells #[.int .i64 n, .slice ao l.length cap] 28)).alloc (.cells #[.int .i64 0, .slice none 0 0] 28)).alloc (.cells #[.int .i64 n, .slice none 0 0] 28) = W := ⟨_, rfl⟩
  have hB0 : Below w.heap.size w w0 := by rw [← hW]; exact (((Below.refl _ w).alloc (Nat.le_refl _) _).alloc (by simp) _).alloc (by simp; omega) _
  have hzz : w0.heap.size = w.heap.size + 3 := by rw [← hW]; simp
  have q1 : w0.heap[w.heap.size + 1]? = some (.cells #[.int .i64 0, .slice none 0 0] 28 (0, 0)) := by rw [← hW]; exact heap_mid _ _ _ _
  have q2 : w0.heap[w.heap.size + 1 + 1]? = some (.cells #[.int .i64 n, .slice none 0 0] 28 (0, 0)) := by
    rw [← hW]
    have := heap_alloc_new ((w.alloc (.cells #[.int .i64 n, .slice ao l.length cap] 28)).alloc (.cells #[.int .i64 0, .slice none 0 0] 28)) (.cells #[.int .i64 n, .slice none 0 0] 28)
    rw [World.size_alloc, World.size_alloc] at this
    exact this
  rw [hW]
  have G0 : Gr w0 (w.heap.size + 3) (.slice none 0 0) [] := gr_nil (by omega)
  have Q1 : Hid _ := q1
  have Q2 : Hid _ := q2
  clear hW q1 q2
  go_loopw [12] (fun i wr => ∃ (j : Nat) (u : Value) (ys : List Row), j ≤ l.length ∧ i = .int .i64 j ∧ Hid (ys.map Row.e = (l.take j).map Row.e) ∧ Hid (wr.heap[w.heap.size + 1 + 1]? = some (.cells #[.int .i64 n, u] 28 (0, 0))) ∧ Hid (wr.heap[w.heap.size + 1]? = some (.cells #[.int .i64 0, .slice none 0 0] 28 (0, 0))) ∧ Gr wr (w.heap.size + 3) u ys ∧ Below w.heap.size w wr) (fun i _ => l.length - (intOf i).toNat)
  case atStart => exact ⟨0, _, [], Nat.zero_le _, rfl, rfl, Q2, Q1, G0, hB0⟩
  case round =>
    clear G0 Q1 Q2 hB0 hzz
    obtain ⟨j, u, ys, hj, rfl, HY, Q2, Q1, hG, hB⟩ := hrel
    by_cases hlt : j < l.length
    · obtain ⟨b, off, rfl, hb, hnc, hcm, hc⟩ := es_some hr.rows (by omega)
      obtain ⟨c0, c1, c2, c3, c4, c5, c6⟩ := es_cells hc hB hb hlt
      have hk1 : (j : Int) < (l.length : Int) := by omega
      have hin := rowIn_kept (hr.ins _ (esAt_mem hlt)) hB
      have hsm := hs.each _ (esAt_mem hlt)
      have hys : ys.length = j := by
        have := congrArg List.length HY.out
        rw [List.length_map, List.length_map, List.length_take] at this; omega
      have hBz := hB.size
      clear hc hnc hcm
      go_wp2_with fail
      obtain ⟨W0, hW0⟩ : ∃ W, wr.alloc (.cells #[.string (esAt l j).e.key, .int .i64 (esAt l j).e.til, .int .i64 (esAt l j).e.kind, .string (esAt l j).e.text, .slice (esAt l j).al (esAt l j).e.list.length (esAt l j).cl, .slice (esAt l j).as_ (esAt l j).e.scores.length (esAt l j).cs, .slice (esAt l j).af (esAt l j).e.fields.length (esAt l j).cf] 53) = W := ⟨_, rfl⟩
      have hb1 : Below wr.heap.size wr W0.drew := by rw [← hW0]; exact ((Below.refl _ wr).alloc (Nat.le_refl _) _).drew
      have qB : W0.drew.heap[wr.heap.size]? = some (.cells (rowC (esAt l j)).toArray 53 (0, 0)) := by rw [← hW0]; exact heap_alloc_new wr _
      have hsz1 : W0.drew.heap.size = wr.heap.size + 1 := by rw [← hW0]; simp
      rw [hW0]
      clear hW0
      have HS : Hid (∀ w' : World, w'.heap[wr.heap.size]? = some (.cells (rowC (esAt l j)).toArray 53 (0, 0)) → (w'.cell? ⟨wr.heap.size, 0, none⟩ = some (.string (esAt l j).e.key) ∧ w'.cell? ⟨wr.heap.size, 1, none⟩ = some (.int .i64 (esAt l j).e.til) ∧ w'.cell? ⟨wr.heap.size, 2, none⟩ = some (.int .i64 (esAt l j).e.kind) ∧ w'.cell? ⟨wr.heap.size, 3, none⟩ = some (.string (esAt l j).e.text) ∧ w'.cell? ⟨wr.heap.size, 4, none⟩ = some (.slice (esAt l j).al (esAt l j).e.list.length (esAt l j).cl) ∧ w'.cell? ⟨wr.heap.size, 5, none⟩ = some (.slice (esAt l j).as_ (esAt l j).e.scores.length (esAt l j).cs) ∧ w'.cell? ⟨wr.heap.size, 6, none⟩ = some (.slice (esAt l j).af (esAt l j).e.fields.length (esAt l j).cf))) := fun w' h => ⟨by rw [cell_of_row _ _ _ _ _ _ h]; rfl, by rw [cell_of_row _ _ _ _ _ _ h]; rfl, by rw [cell_of_row _ _ _ _ _ _ h]; rfl, by rw [cell_of_row _ _ _ _ _ _ h]; rfl, by rw [cell_of_row _ _ _ _ _ _ h]; rfl, by rw [cell_of_row _ _ _ _ _ _ h]; rfl, by rw [cell_of_row _ _ _ _ _ _ h]; rfl⟩
      have HN0 : Hid (some wr.heap.size ≠ u.ownBlock) := gr_ne hG (.inr (Nat.le_refl _))
      have hin1 := rowIn_kept hin hb1
      have hG1 := gr_kept hG hb1
      have hO : w.heap.size + 1 + 1 < wr.heap.size := (Array.getElem?_eq_some_iff.1 Q2.out).1
      have qO := (hb1.block (w.heap.size + 1 + 1) hO).trans Q2.out
      have qR := (hb1.block (w.heap.size + 1) (by omega)).trans Q1.out
      have hB1 := hB.trans (hb1.mono hBz)
      have HB1 : Hid _ := hB1
      have QO : Hid _ := qO
      have QR : Hid _ := qR
      have QB : Hid _ := qB
      have HI : Hid _ := hin1
      have HG1 : Hid _ := hG1
      have HZ1 : Hid _ := hsz1
      have o1 : W0.drew.cell? ⟨w.heap.size + 1 + 1, 1, none⟩ = some u := by rw [cell_of_row _ _ _ _ _ _ qO]; rfl
      clear hb1 hsz1 hin1 hG1 qO qR hB1 hin hG hB Q1 Q2 c0 c1 c2 c3 c4 c5 c6 hr
      refine wp_region_held_drew (S := (fun w' => (w'.cell? ⟨wr.heap.size, 0, none⟩ = some (.string (esAt l j).e.key) ∧ w'.cell? ⟨wr.heap.size, 1, none⟩ = some (.int .i64 (esAt l j).e.til) ∧ w'.cell? ⟨wr.heap.size, 2, none⟩ = some (.int .i64 (esAt l j).e.kind) ∧ w'.cell? ⟨wr.heap.size, 3, none⟩ = some (.string (esAt l j).e.text) ∧ w'.cell? ⟨wr.heap.size, 4, none⟩ = some (.slice (esAt l j).al (esAt l j).e.list.length (esAt l j).cl) ∧ w'.cell? ⟨wr.heap.size, 5, none⟩ = some (.slice (esAt l j).as_ (esAt l j).e.scores.length (esAt l j).cs) ∧ w'.cell? ⟨wr.heap.size, 6, none⟩ = some (.slice (esAt l j).af (esAt l j).e.fields.length (esAt l j).cf)))) (by kernel_rfl) (by exact HS.out _ qB) (fun hHeld => ?_)
      clear qB
      generalize W0.drew = W1 at *
      refine takeH (i := 0) (d := (some 16)) (v := ?_) rfl rfl (by kernel_rfl) (by kernel_rfl) (by kernel_rfl) (fun _ _ _ h => h) (by kernel_rfl) ?_ (by assumption) ?_
      rotate_left
      · (intro w hSw; (try dsimp only at hSw); go_simp; try with_reducible rfl)
      try simp only [Act.put, List.setIfInBounds_toArray, List.set_cons_succ, List.set_cons_zero]
      refine takeH (i := 2) (d := (some 18)) (v := ?_) rfl rfl (by kernel_rfl) (by kernel_rfl) (by kernel_rfl) (fun _ _ _ h => h) (by kernel_rfl) ?_ (by assumption) ?_
      rotate_left
      · (intro w hSw; (try dsimp only at hSw); go_simp; try with_reducible rfl)
      try simp only [Act.put, List.setIfInBounds_toArray, List.set_cons_succ, List.set_cons_zero]
      refine wpAnyH_ready (rs := [1, 3]) (by kernel_rfl) (by simp) ?_
      refine AllReadyH.cons rfl (fun K hK => ?_) (AllReadyH.cons rfl (fun K hK => ?_) AllReadyH.nil)
      · go_simp
        refine hK.out _ _ ?_ (fun hHeld => ?_)
        · exact HS.out _ QB.out
        clear hK K
        (try simp only [Act.put]); (try simp only [List.setIfInBounds_toArray]); (try simp only [List.set_cons_succ]); (try simp only [List.set_cons_zero])
        refine wpAnyH_ready (rs := [3]) (by kernel_rfl) (by simp) ?_
        refine AllReadyH.cons rfl (fun K hK => ?_) AllReadyH.nil
        go_simp
        refine (copyEntry_any (esAt l j).e _ _ _ _ HI.out hsm).mono ?_; rintro x w2 ⟨⟨ul, us, uf, rfl, hox⟩, hb2⟩
        refine hK.out _ _ ?_ (fun hHeld => ?_)
        · exact HS.out _ ((hb2.block _ (by rw [HZ1.out]; omega)).trans QB.out)
        clear hK K
        try simp only [Act.put, List.setIfInBounds_toArray, List.set_cons_succ, List.set_cons_zero]
        obtain ⟨al, cl, as_, cs, af, cf, rfl, rfl, rfl⟩ := enReads_shape (enOwn_reads hox)
        have hz2 := hb2.size
        have HX : Hid _ := hox
        have hbl : Below w2.heap.size w2 (w2.alloc (.cells #[.string (esAt l j).e.key, .int .i64 (esAt l j).e.til, .int .i64 (esAt l j).e.kind, .string (esAt l j).e.text, .slice al (esAt l j).e.list.length cl, .slice as_ (esAt l j).e.scores.length cs, .slice af (esAt l j).e.fields.length cf] 53)) := (Below.refl _ w2).alloc (Nat.le_refl _) _
        have QB3 : Hid ((w2.alloc (.cells #[.string (esAt l j).e.key, .int .i64 (esAt l j).e.til, .int .i64 (esAt l j).e.kind, .string (esAt l j).e.text, .slice al (esAt l j).e.list.length cl, .slice as_ (esAt l j).e.scores.length cs, .slice af (esAt l j).e.fields.length cf] 53)).heap[wr.heap.size]? = some (.cells (rowC (esAt l j)).toArray 53 (0, 0))) := (hbl.block _ (by rw [HZ1.out] at hz2; omega)).trans ((hb2.block _ (by rw [HZ1.out]; omega)).trans QB.out)
        have QO3 : Hid ((w2.alloc (.cells #[.string (esAt l j).e.key, .int .i64 (esAt l j).e.til, .int .i64 (esAt l j).e.kind, .string (esAt l j).e.text, .slice al (esAt l j).e.list.length cl, .slice as_ (esAt l j).e.scores.length cs, .slice af (esAt l j).e.fields.length cf] 53)).heap[w.heap.size + 1 + 1]? = _) := (hbl.block _ (by rw [HZ1.out] at hz2; omega)).trans ((hb2.block _ (by rw [HZ1.out]; omega)).trans QO.out)
        have QR3 : Hid ((w2.alloc (.cells #[.string (esAt l j).e.key, .int .i64 (esAt l j).e.til, .int .i64 (esAt l j).e.kind, .string (esAt l j).e.text, .slice al (esAt l j).e.list.length cl, .slice as_ (esAt l j).e.scores.length cs, .slice af (esAt l j).e.fields.length cf] 53)).heap[w.heap.size + 1]? = _) := (hbl.block _ (by rw [HZ1.out] at hz2; omega)).trans ((hb2.block _ (by rw [HZ1.out]; omega)).trans QR.out)
        have HU3 : Hid _ := ownsR_kept (ownsR_kept HG1.out.rows hb2) hbl
        have HE3 : Hid _ := ensOwn_kept (ensOwn_kept HG1.out.ins hb2) hbl
        have HX3 : Hid _ := enOwn_kept hox hbl
        have HB3 : Hid (Below w.heap.size w (w2.alloc (.cells #[.string (esAt l j).e.key, .int .i64 (esAt l j).e.til, .int .i64 (esAt l j).e.kind, .string (esAt l j).e.text, .slice al (esAt l j).e.list.length cl, .slice as_ (esAt l j).e.scores.length cs, .slice af (esAt l j).e.fields.length cf] 53))) := (HB1.out.trans (hb2.mono HB1.out.size)).trans (hbl.mono (Nat.le_trans HB1.out.size hz2))
        have hz3 : (w2.alloc (.cells #[.string (esAt l j).e.key, .int .i64 (esAt l j).e.til, .int .i64 (esAt l j).e.kind, .string (esAt l j).e.text, .slice al (esAt l j).e.list.length cl, .slice as_ (esAt l j).e.scores.length cs, .slice af (esAt l j).e.fields.length cf] 53)).heap.size = w2.heap.size + 1 := by simp
        have HZ3 : Hid _ := hz3
        have HZ2 : Hid _ := hz2
        clear hbl hz3 hz2 hox hb2
        refine wpAnyH_ready (rs := [4]) (by kernel_rfl) (by simp) ?_
        refine AllReadyH.cons rfl (fun K hK => ?_) AllReadyH.nil
        go_simp
        refine hK.out _ _ ?_ (fun hHeld => ?_)
        · exact HS.out _ QB3.out
        clear hK K
        try simp only [Act.put, List.setIfInBounds_toArray, List.set_cons_succ, List.set_cons_zero]
        refine wpAnyH_ready (rs := [5]) (by kernel_rfl) (by simp) ?_
        refine AllReadyH.cons rfl (fun K hK => ?_) AllReadyH.nil
        refine step_append_R (c := rowC) (d := some 21) rfl rfl (.tmp 17) (.tmp 20) 26 rfl (w.heap.size + 3) 53 i0 _ 7 120 Tryz.underlying26 hi0 hz0 hz1 hz2 rfl (by decide) _ _ _ rfl HU3.out _ rfl [(⟨(esAt l j).e, al, cl, as_, cs, af, cf⟩ : Row)] (row_one_at (heap_alloc_new w2 _)) rowC_len rowC_one (by unfold maxLen; simp; omega) (by simp; omega) (by have h1 := HZ3.out; have h2 := HZ2.out; have h3 := HZ1.out; omega) ?_; intro u4 w4 ho4 hg4; have QB4 : Hid (w4.heap[wr.heap.size]? = _) := (hg4.block _ (Array.getElem?_eq_some_iff.1 QB3.out).1 HN0.out).trans QB3.out
        refine hK.out _ _ ?_ (fun hHeld => ?_)
        · exact HS.out _ QB4.out
        clear hK K
        (try simp only [Act.put]); (try simp only [List.setIfInBounds_toArray]); (try simp only [List.set_cons_succ]); (try simp only [List.set_cons_zero])
        have QO4 : Hid (w4.heap[w.heap.size + 1 + 1]? = _) := (hg4.block _ (Array.getElem?_eq_some_iff.1 QO3.out).1 (gr_ne HG1.out (.inl (by omega)))).trans QO3.out
        have QR4 : Hid (w4.heap[w.heap.size + 1]? = _) := (hg4.block _ (Array.getElem?_eq_some_iff.1 QR3.out).1 (gr_ne HG1.out (.inl (by omega)))).trans QR3.out
        have hgr := gr_add (x := (⟨(esAt l j).e, al, cl, as_, cs, af, cf⟩ : Row)) (w1 := w2) HU3.out HE3.out HX3.out (by rw [HZ3.out]; omega) (by simpa using ho4) hg4
        have hB4 : Below w.heap.size w w4 := HB3.out.grown hg4 HB3.out.size (fun k hk => by have := World.ownsRow.lt HG1.out.rows k hk; omega)
        obtain ⟨a4, c4, rfl⟩ := readsR_shape (gr_reads hgr).rows
        have HGR : Hid _ := hgr
        have HB4 : Hid _ := hB4
        have o4 : w4.cell? ⟨w.heap.size + 1 + 1, 1, none⟩ = some u := by rw [cell_of_row _ _ _ _ _ _ QO4.out]; rfl
        have f4 : ∀ o, w4.frozen? ⟨w.heap.size + 1 + 1, o, none⟩ = false := fun o => by simp [World.frozen?, QO4.out]
        clear hgr hB4 ho4 hg4
        refine takeH (i := 6) (d := (some 22)) (v := ?_) rfl rfl (by kernel_rfl) (by kernel_rfl) (by kernel_rfl) (fun _ _ _ h => h) (by kernel_rfl) ?_ (by assumption) ?_
        rotate_left
        · (intro w hSw; (try dsimp only at hSw); go_simp; try with_reducible rfl)
        try simp only [Act.put, List.setIfInBounds_toArray, List.set_cons_succ, List.set_cons_zero]
        refine wpAnyH_ready (rs := [7]) (by kernel_rfl) (by simp) ?_
        refine AllReadyH.cons rfl (fun K hK => ?_) AllReadyH.nil
        go_simp
        refine hK.out _ _ ?_ (fun hHeld => ?_)
        · exact HS.out _ ((Below.heap_setCell _ _ _ _ (by show wr.heap.size ≠ w.heap.size + 1 + 1; omega)).trans QB4.out)
        clear hK K
        try simp only [Act.put, List.setIfInBounds_toArray, List.set_cons_succ, List.set_cons_zero]
        refine wpAnyH_done (by kernel_rfl) ?_ _
        have R1 : Hid _ := gr_cell HGR.out ⟨w.heap.size + 1 + 1, 1, none⟩ (.slice a4 (ys ++ [(⟨(esAt l j).e, al, cl, as_, cs, af, cf⟩ : Row)]).length c4) (by show w.heap.size + 1 + 1 < _; omega)
        have R2 : Hid (Below w.heap.size w (w4.setCell ⟨w.heap.size + 1 + 1, 1, none⟩ (.slice a4 (ys ++ [(⟨(esAt l j).e, al, cl, as_, cs, af, cf⟩ : Row)]).length c4))) := HB4.out.setCell (p := ⟨w.heap.size + 1 + 1, 1, none⟩) (by show w.heap.size ≤ w.heap.size + 1 + 1; omega) _
        have R3 : Hid ((w4.setCell ⟨w.heap.size + 1 + 1, 1, none⟩ (.slice a4 (ys ++ [(⟨(esAt l j).e, al, cl, as_, cs, af, cf⟩ : Row)]).length c4)).heap[w.heap.size + 1 + 1]? = some (.cells #[.int .i64 n, .slice a4 (ys ++ [(⟨(esAt l j).e, al, cl, as_, cs, af, cf⟩ : Row)]).length c4] 28 (0, 0))) := by
          show _ = _
          rw [heap_setCell_same _ (w.heap.size + 1 + 1) 1 _ _ _ QO4.out]; rfl
        have R4 : Hid ((w4.setCell ⟨w.heap.size + 1 + 1, 1, none⟩ (.slice a4 (ys ++ [(⟨(esAt l j).e, al, cl, as_, cs, af, cf⟩ : Row)]).length c4)).heap[w.heap.size + 1]? = _) := (Below.heap_setCell _ _ _ _ (by show w.heap.size + 1 ≠ w.heap.size + 1 + 1; omega)).trans QR4.out
        have R5 : Hid ((ys ++ [(⟨(esAt l j).e, al, cl, as_, cs, af, cf⟩ : Row)]).map Row.e = (l.take (j + 1)).map Row.e) := by
          show _ = _
          rw [List.map_append, HY.out, take_es hlt, List.map_append]; rfl
        have R6 : (ys ++ [(⟨(esAt l j).e, al, cl, as_, cs, af, cf⟩ : Row)]).length = j + 1 := by rw [List.length_append, hys]; rfl
        rw [R6] at R1 R2 R3 R4
        clear o4 f4 R6
        go_wp2_with fail
        go_roundw
        case rel => exact ⟨j + 1, _, _, hlt, by go_num, R5, R3, R4, R1.out, R2.out⟩
        case measure => simp [intOf]; omega
      · go_simp
        refine (copyEntry_any (esAt l j).e _ _ _ _ HI.out hsm).mono ?_
        rintro x w2 ⟨⟨ul, us, uf, rfl, hox⟩, hb2⟩
        refine hK.out _ _ ?_ (fun hHeld => ?_)
        · exact HS.out _ ((hb2.block _ (by rw [HZ1.out]; omega)).trans QB.out)
        clear hK K
        (try simp only [Act.put]); (try simp only [List.setIfInBounds_toArray]); (try simp only [List.set_cons_succ]); (try simp only [List.set_cons_zero])
        have o2 : w2.cell? ⟨w.heap.size + 1 + 1, 1, none⟩ = some u := (hb2.cell (p := ⟨w.heap.size + 1 + 1, 1, none⟩) (by show w.heap.size + 1 + 1 < _; rw [HZ1.out]; omega)).trans o1
        refine wpAnyH_ready (rs := [1, 4]) (by kernel_rfl) (by simp) ?_
        refine AllReadyH.cons rfl (fun K hK => ?_) (AllReadyH.cons rfl (fun K hK => ?_) AllReadyH.nil)
        · go_simp
          refine hK.out _ _ ?_ (fun hHeld => ?_)
          · exact hHeld
          clear hK K
          (try simp only [Act.put]); (try simp only [List.setIfInBounds_toArray]); (try simp only [List.set_cons_succ]); (try simp only [List.set_cons_zero])
          obtain ⟨al, cl, as_, cs, af, cf, rfl, rfl, rfl⟩ := enReads_shape (enOwn_reads hox)
          have hz2 := hb2.size
          have HX : Hid _ := hox
          have hbl : Below w2.heap.size w2 (w2.alloc (.cells #[.string (esAt l j).e.key, .int .i64 (esAt l j).e.til, .int .i64 (esAt l j).e.kind, .string (esAt l j).e.text, .slice al (esAt l j).e.list.length cl, .slice as_ (esAt l j).e.scores.length cs, .slice af (esAt l j).e.fields.length cf] 53)) := (Below.refl _ w2).alloc (Nat.le_refl _) _
          have QB3 : Hid ((w2.alloc (.cells #[.string (esAt l j).e.key, .int .i64 (esAt l j).e.til, .int .i64 (esAt l j).e.kind, .string (esAt l j).e.text, .slice al (esAt l j).e.list.length cl, .slice as_ (esAt l j).e.scores.length cs, .slice af (esAt l j).e.fields.length cf] 53)).heap[wr.heap.size]? = some (.cells (rowC (esAt l j)).toArray 53 (0, 0))) := (hbl.block _ (by rw [HZ1.out] at hz2; omega)).trans ((hb2.block _ (by rw [HZ1.out]; omega)).trans QB.out)
          have QO3 : Hid ((w2.alloc (.cells #[.string (esAt l j).e.key, .int .i64 (esAt l j).e.til, .int .i64 (esAt l j).e.kind, .string (esAt l j).e.text, .slice al (esAt l j).e.list.length cl, .slice as_ (esAt l j).e.scores.length cs, .slice af (esAt l j).e.fields.length cf] 53)).heap[w.heap.size + 1 + 1]? = _) := (hbl.block _ (by rw [HZ1.out] at hz2; omega)).trans ((hb2.block _ (by rw [HZ1.out]; omega)).trans QO.out)
          have QR3 : Hid ((w2.alloc (.cells #[.string (esAt l j).e.key, .int .i64 (esAt l j).e.til, .int .i64 (esAt l j).e.kind, .string (esAt l j).e.text, .slice al (esAt l j).e.list.length cl, .slice as_ (esAt l j).e.scores.length cs, .slice af (esAt l j).e.fields.length cf] 53)).heap[w.heap.size + 1]? = _) := (hbl.block _ (by rw [HZ1.out] at hz2; omega)).trans ((hb2.block _ (by rw [HZ1.out]; omega)).trans QR.out)
          have HU3 : Hid _ := ownsR_kept (ownsR_kept HG1.out.rows hb2) hbl
          have HE3 : Hid _ := ensOwn_kept (ensOwn_kept HG1.out.ins hb2) hbl
          have HX3 : Hid _ := enOwn_kept hox hbl
          have HB3 : Hid (Below w.heap.size w (w2.alloc (.cells #[.string (esAt l j).e.key, .int .i64 (esAt l j).e.til, .int .i64 (esAt l j).e.kind, .string (esAt l j).e.text, .slice al (esAt l j).e.list.length cl, .slice as_ (esAt l j).e.scores.length cs, .slice af (esAt l j).e.fields.length cf] 53))) := (HB1.out.trans (hb2.mono HB1.out.size)).trans (hbl.mono (Nat.le_trans HB1.out.size hz2))
          have hz3 : (w2.alloc (.cells #[.string (esAt l j).e.key, .int .i64 (esAt l j).e.til, .int .i64 (esAt l j).e.kind, .string (esAt l j).e.text, .slice al (esAt l j).e.list.length cl, .slice as_ (esAt l j).e.scores.length cs, .slice af (esAt l j).e.fields.length cf] 53)).heap.size = w2.heap.size + 1 := by simp
          have HZ3 : Hid _ := hz3
          have HZ2 : Hid _ := hz2
          clear hbl hz3 hz2 hox hb2
          refine wpAnyH_ready (rs := [4]) (by kernel_rfl) (by simp) ?_
          refine AllReadyH.cons rfl (fun K hK => ?_) AllReadyH.nil
          go_simp
          refine hK.out _ _ ?_ (fun hHeld => ?_)
          · exact HS.out _ QB3.out
          clear hK K
          try simp only [Act.put, List.setIfInBounds_toArray, List.set_cons_succ, List.set_cons_zero]
          refine wpAnyH_ready (rs := [5]) (by kernel_rfl) (by simp) ?_
          refine AllReadyH.cons rfl (fun K hK => ?_) AllReadyH.nil
          refine step_append_R (c := rowC) (d := some 21) rfl rfl (.tmp 17) (.tmp 20) 26 rfl (w.heap.size + 3) 53 i0 _ 7 120 Tryz.underlying26 hi0 hz0 hz1 hz2 rfl (by decide) _ _ _ rfl HU3.out _ rfl [(⟨(esAt l j).e, al, cl, as_, cs, af, cf⟩ : Row)] (row_one_at (heap_alloc_new w2 _)) rowC_len rowC_one (by unfold maxLen; simp; omega) (by simp; omega) (by have h1 := HZ3.out; have h2 := HZ2.out; have h3 := HZ1.out; omega) ?_; intro u4 w4 ho4 hg4; have QB4 : Hid (w4.heap[wr.heap.size]? = _) := (hg4.block _ (Array.getElem?_eq_some_iff.1 QB3.out).1 HN0.out).trans QB3.out
          refine hK.out _ _ ?_ (fun hHeld => ?_)
          · exact HS.out _ QB4.out
          clear hK K
          (try simp only [Act.put]); (try simp only [List.setIfInBounds_toArray]); (try simp only [List.set_cons_succ]); (try simp only [List.set_cons_zero])
          have QO4 : Hid (w4.heap[w.heap.size + 1 + 1]? = _) := (hg4.block _ (Array.getElem?_eq_some_iff.1 QO3.out).1 (gr_ne HG1.out (.inl (by omega)))).trans QO3.out
          have QR4 : Hid (w4.heap[w.heap.size + 1]? = _) := (hg4.block _ (Array.getElem?_eq_some_iff.1 QR3.out).1 (gr_ne HG1.out (.inl (by omega)))).trans QR3.out
          have hgr := gr_add (x := (⟨(esAt l j).e, al, cl, as_, cs, af, cf⟩ : Row)) (w1 := w2) HU3.out HE3.out HX3.out (by rw [HZ3.out]; omega) (by simpa using ho4) hg4
          have hB4 : Below w.heap.size w w4 := HB3.out.grown hg4 HB3.out.size (fun k hk => by have := World.ownsRow.lt HG1.out.rows k hk; omega)
          obtain ⟨a4, c4, rfl⟩ := readsR_shape (gr_reads hgr).rows
          have HGR : Hid _ := hgr
          have HB4 : Hid _ := hB4
          have o4 : w4.cell? ⟨w.heap.size + 1 + 1, 1, none⟩ = some u := by rw [cell_of_row _ _ _ _ _ _ QO4.out]; rfl
          have f4 : ∀ o, w4.frozen? ⟨w.heap.size + 1 + 1, o, none⟩ = false := fun o => by simp [World.frozen?, QO4.out]
          clear hgr hB4 ho4 hg4
          refine takeH (i := 6) (d := (some 22)) (v := ?_) rfl rfl (by kernel_rfl) (by kernel_rfl) (by kernel_rfl) (fun _ _ _ h => h) (by kernel_rfl) ?_ (by assumption) ?_
          rotate_left
          · (intro w hSw; (try dsimp only at hSw); go_simp; try with_reducible rfl)
          try simp only [Act.put, List.setIfInBounds_toArray, List.set_cons_succ, List.set_cons_zero]
          refine wpAnyH_ready (rs := [7]) (by kernel_rfl) (by simp) ?_
          refine AllReadyH.cons rfl (fun K hK => ?_) AllReadyH.nil
          go_simp
          refine hK.out _ _ ?_ (fun hHeld => ?_)
          · exact HS.out _ ((Below.heap_setCell _ _ _ _ (by show wr.heap.size ≠ w.heap.size + 1 + 1; omega)).trans QB4.out)
          clear hK K
          try simp only [Act.put, List.setIfInBounds_toArray, List.set_cons_succ, List.set_cons_zero]
          refine wpAnyH_done (by kernel_rfl) ?_ _
          have R1 : Hid _ := gr_cell HGR.out ⟨w.heap.size + 1 + 1, 1, none⟩ (.slice a4 (ys ++ [(⟨(esAt l j).e, al, cl, as_, cs, af, cf⟩ : Row)]).length c4) (by show w.heap.size + 1 + 1 < _; omega)
          have R2 : Hid (Below w.heap.size w (w4.setCell ⟨w.heap.size + 1 + 1, 1, none⟩ (.slice a4 (ys ++ [(⟨(esAt l j).e, al, cl, as_, cs, af, cf⟩ : Row)]).length c4))) := HB4.out.setCell (p := ⟨w.heap.size + 1 + 1, 1, none⟩) (by show w.heap.size ≤ w.heap.size + 1 + 1; omega) _
          have R3 : Hid ((w4.setCell ⟨w.heap.size + 1 + 1, 1, none⟩ (.slice a4 (ys ++ [(⟨(esAt l j).e, al, cl, as_, cs, af, cf⟩ : Row)]).length c4)).heap[w.heap.size + 1 + 1]? = some (.cells #[.int .i64 n, .slice a4 (ys ++ [(⟨(esAt l j).e, al, cl, as_, cs, af, cf⟩ : Row)]).length c4] 28 (0, 0))) := by
            show _ = _
            rw [heap_setCell_same _ (w.heap.size + 1 + 1) 1 _ _ _ QO4.out]; rfl
          have R4 : Hid ((w4.setCell ⟨w.heap.size + 1 + 1, 1, none⟩ (.slice a4 (ys ++ [(⟨(esAt l j).e, al, cl, as_, cs, af, cf⟩ : Row)]).length c4)).heap[w.heap.size + 1]? = _) := (Below.heap_setCell _ _ _ _ (by show w.heap.size + 1 ≠ w.heap.size + 1 + 1; omega)).trans QR4.out
          have R5 : Hid ((ys ++ [(⟨(esAt l j).e, al, cl, as_, cs, af, cf⟩ : Row)]).map Row.e = (l.take (j + 1)).map Row.e) := by
            show _ = _
            rw [List.map_append, HY.out, take_es hlt, List.map_append]; rfl
          have R6 : (ys ++ [(⟨(esAt l j).e, al, cl, as_, cs, af, cf⟩ : Row)]).length = j + 1 := by rw [List.length_append, hys]; rfl
          rw [R6] at R1 R2 R3 R4
          clear o4 f4 R6
          go_wp2_with fail
          go_roundw
          case rel => exact ⟨j + 1, _, _, hlt, by go_num, R5, R3, R4, R1.out, R2.out⟩
          case measure => simp [intOf]; omega
        · 
          obtain ⟨al, cl, as_, cs, af, cf, rfl, rfl, rfl⟩ := enReads_shape (enOwn_reads hox)
          have hz2 := hb2.size
          have HX : Hid _ := hox
          have hbl : Below w2.heap.size w2 (w2.alloc (.cells #[.string (esAt l j).e.key, .int .i64 (esAt l j).e.til, .int .i64 (esAt l j).e.kind, .string (esAt l j).e.text, .slice al (esAt l j).e.list.length cl, .slice as_ (esAt l j).e.scores.length cs, .slice af (esAt l j).e.fields.length cf] 53)) := (Below.refl _ w2).alloc (Nat.le_refl _) _
          have QB3 : Hid ((w2.alloc (.cells #[.string (esAt l j).e.key, .int .i64 (esAt l j).e.til, .int .i64 (esAt l j).e.kind, .string (esAt l j).e.text, .slice al (esAt l j).e.list.length cl, .slice as_ (esAt l j).e.scores.length cs, .slice af (esAt l j).e.fields.length cf] 53)).heap[wr.heap.size]? = some (.cells (rowC (esAt l j)).toArray 53 (0, 0))) := (hbl.block _ (by rw [HZ1.out] at hz2; omega)).trans ((hb2.block _ (by rw [HZ1.out]; omega)).trans QB.out)
          have QO3 : Hid ((w2.alloc (.cells #[.string (esAt l j).e.key, .int .i64 (esAt l j).e.til, .int .i64 (esAt l j).e.kind, .string (esAt l j).e.text, .slice al (esAt l j).e.list.length cl, .slice as_ (esAt l j).e.scores.length cs, .slice af (esAt l j).e.fields.length cf] 53)).heap[w.heap.size + 1 + 1]? = _) := (hbl.block _ (by rw [HZ1.out] at hz2; omega)).trans ((hb2.block _ (by rw [HZ1.out]; omega)).trans QO.out)
          have QR3 : Hid ((w2.alloc (.cells #[.string (esAt l j).e.key, .int .i64 (esAt l j).e.til, .int .i64 (esAt l j).e.kind, .string (esAt l j).e.text, .slice al (esAt l j).e.list.length cl, .slice as_ (esAt l j).e.scores.length cs, .slice af (esAt l j).e.fields.length cf] 53)).heap[w.heap.size + 1]? = _) := (hbl.block _ (by rw [HZ1.out] at hz2; omega)).trans ((hb2.block _ (by rw [HZ1.out]; omega)).trans QR.out)
          have HU3 : Hid _ := ownsR_kept (ownsR_kept HG1.out.rows hb2) hbl
          have HE3 : Hid _ := ensOwn_kept (ensOwn_kept HG1.out.ins hb2) hbl
          have HX3 : Hid _ := enOwn_kept hox hbl
          have HB3 : Hid (Below w.heap.size w (w2.alloc (.cells #[.string (esAt l j).e.key, .int .i64 (esAt l j).e.til, .int .i64 (esAt l j).e.kind, .string (esAt l j).e.text, .slice al (esAt l j).e.list.length cl, .slice as_ (esAt l j).e.scores.length cs, .slice af (esAt l j).e.fields.length cf] 53))) := (HB1.out.trans (hb2.mono HB1.out.size)).trans (hbl.mono (Nat.le_trans HB1.out.size hz2))
          have hz3 : (w2.alloc (.cells #[.string (esAt l j).e.key, .int .i64 (esAt l j).e.til, .int .i64 (esAt l j).e.kind, .string (esAt l j).e.text, .slice al (esAt l j).e.list.length cl, .slice as_ (esAt l j).e.scores.length cs, .slice af (esAt l j).e.fields.length cf] 53)).heap.size = w2.heap.size + 1 := by simp
          have HZ3 : Hid _ := hz3
          have HZ2 : Hid _ := hz2
          clear hbl hz3 hz2 hox hb2
          go_simp
          refine hK.out _ _ ?_ (fun hHeld => ?_)
          · exact HS.out _ QB3.out
          clear hK K
          (try simp only [Act.put]); (try simp only [List.setIfInBounds_toArray]); (try simp only [List.set_cons_succ]); (try simp only [List.set_cons_zero])
          have o3 : (w2.alloc (.cells #[.string (esAt l j).e.key, .int .i64 (esAt l j).e.til, .int .i64 (esAt l j).e.kind, .string (esAt l j).e.text, .slice al (esAt l j).e.list.length cl, .slice as_ (esAt l j).e.scores.length cs, .slice af (esAt l j).e.fields.length cf] 53)).cell? ⟨w.heap.size + 1 + 1, 1, none⟩ = some u := by rw [cell_of_row _ _ _ _ _ _ QO3.out]; rfl
          refine wpAnyH_ready (rs := [1]) (by kernel_rfl) (by simp) ?_
          refine AllReadyH.cons rfl (fun K hK => ?_) AllReadyH.nil
          go_simp
          refine hK.out _ _ ?_ (fun hHeld => ?_)
          · exact HS.out _ QB3.out
          clear hK K
          try simp only [Act.put, List.setIfInBounds_toArray, List.set_cons_succ, List.set_cons_zero]
          refine wpAnyH_ready (rs := [5]) (by kernel_rfl) (by simp) ?_
          refine AllReadyH.cons rfl (fun K hK => ?_) AllReadyH.nil
          refine step_append_R (c := rowC) (d := some 21) rfl rfl (.tmp 17) (.tmp 20) 26 rfl (w.heap.size + 3) 53 i0 _ 7 120 Tryz.underlying26 hi0 hz0 hz1 hz2 rfl (by decide) _ _ _ rfl HU3.out _ rfl [(⟨(esAt l j).e, al, cl, as_, cs, af, cf⟩ : Row)] (row_one_at (heap_alloc_new w2 _)) rowC_len rowC_one (by unfold maxLen; simp; omega) (by simp; omega) (by have h1 := HZ3.out; have h2 := HZ2.out; have h3 := HZ1.out; omega) ?_; intro u4 w4 ho4 hg4; have QB4 : Hid (w4.heap[wr.heap.size]? = _) := (hg4.block _ (Array.getElem?_eq_some_iff.1 QB3.out).1 HN0.out).trans QB3.out
          refine hK.out _ _ ?_ (fun hHeld => ?_)
          · exact HS.out _ QB4.out
          clear hK K
          (try simp only [Act.put]); (try simp only [List.setIfInBounds_toArray]); (try simp only [List.set_cons_succ]); (try simp only [List.set_cons_zero])
          have QO4 : Hid (w4.heap[w.heap.size + 1 + 1]? = _) := (hg4.block _ (Array.getElem?_eq_some_iff.1 QO3.out).1 (gr_ne HG1.out (.inl (by omega)))).trans QO3.out
          have QR4 : Hid (w4.heap[w.heap.size + 1]? = _) := (hg4.block _ (Array.getElem?_eq_some_iff.1 QR3.out).1 (gr_ne HG1.out (.inl (by omega)))).trans QR3.out
          have hgr := gr_add (x := (⟨(esAt l j).e, al, cl, as_, cs, af, cf⟩ : Row)) (w1 := w2) HU3.out HE3.out HX3.out (by rw [HZ3.out]; omega) (by simpa using ho4) hg4
          have hB4 : Below w.heap.size w w4 := HB3.out.grown hg4 HB3.out.size (fun k hk => by have := World.ownsRow.lt HG1.out.rows k hk; omega)
          obtain ⟨a4, c4, rfl⟩ := readsR_shape (gr_reads hgr).rows
          have HGR : Hid _ := hgr
          have HB4 : Hid _ := hB4
          have o4 : w4.cell? ⟨w.heap.size + 1 + 1, 1, none⟩ = some u := by rw [cell_of_row _ _ _ _ _ _ QO4.out]; rfl
          have f4 : ∀ o, w4.frozen? ⟨w.heap.size + 1 + 1, o, none⟩ = false := fun o => by simp [World.frozen?, QO4.out]
          clear hgr hB4 ho4 hg4
          refine takeH (i := 6) (d := (some 22)) (v := ?_) rfl rfl (by kernel_rfl) (by kernel_rfl) (by kernel_rfl) (fun _ _ _ h => h) (by kernel_rfl) ?_ (by assumption) ?_
          rotate_left
          · (intro w hSw; (try dsimp only at hSw); go_simp; try with_reducible rfl)
          try simp only [Act.put, List.setIfInBounds_toArray, List.set_cons_succ, List.set_cons_zero]
          refine wpAnyH_ready (rs := [7]) (by kernel_rfl) (by simp) ?_
          refine AllReadyH.cons rfl (fun K hK => ?_) AllReadyH.nil
          go_simp
          refine hK.out _ _ ?_ (fun hHeld => ?_)
          · exact HS.out _ ((Below.heap_setCell _ _ _ _ (by show wr.heap.size ≠ w.heap.size + 1 + 1; omega)).trans QB4.out)
          clear hK K
          try simp only [Act.put, List.setIfInBounds_toArray, List.set_cons_succ, List.set_cons_zero]
          refine wpAnyH_done (by kernel_rfl) ?_ _
          have R1 : Hid _ := gr_cell HGR.out ⟨w.heap.size + 1 + 1, 1, none⟩ (.slice a4 (ys ++ [(⟨(esAt l j).e, al, cl, as_, cs, af, cf⟩ : Row)]).length c4) (by show w.heap.size + 1 + 1 < _; omega)
          have R2 : Hid (Below w.heap.size w (w4.setCell ⟨w.heap.size + 1 + 1, 1, none⟩ (.slice a4 (ys ++ [(⟨(esAt l j).e, al, cl, as_, cs, af, cf⟩ : Row)]).length c4))) := HB4.out.setCell (p := ⟨w.heap.size + 1 + 1, 1, none⟩) (by show w.heap.size ≤ w.heap.size + 1 + 1; omega) _
          have R3 : Hid ((w4.setCell ⟨w.heap.size + 1 + 1, 1, none⟩ (.slice a4 (ys ++ [(⟨(esAt l j).e, al, cl, as_, cs, af, cf⟩ : Row)]).length c4)).heap[w.heap.size + 1 + 1]? = some (.cells #[.int .i64 n, .slice a4 (ys ++ [(⟨(esAt l j).e, al, cl, as_, cs, af, cf⟩ : Row)]).length c4] 28 (0, 0))) := by
            show _ = _
            rw [heap_setCell_same _ (w.heap.size + 1 + 1) 1 _ _ _ QO4.out]; rfl
          have R4 : Hid ((w4.setCell ⟨w.heap.size + 1 + 1, 1, none⟩ (.slice a4 (ys ++ [(⟨(esAt l j).e, al, cl, as_, cs, af, cf⟩ : Row)]).length c4)).heap[w.heap.size + 1]? = _) := (Below.heap_setCell _ _ _ _ (by show w.heap.size + 1 ≠ w.heap.size + 1 + 1; omega)).trans QR4.out
          have R5 : Hid ((ys ++ [(⟨(esAt l j).e, al, cl, as_, cs, af, cf⟩ : Row)]).map Row.e = (l.take (j + 1)).map Row.e) := by
            show _ = _
            rw [List.map_append, HY.out, take_es hlt, List.map_append]; rfl
          have R6 : (ys ++ [(⟨(esAt l j).e, al, cl, as_, cs, af, cf⟩ : Row)]).length = j + 1 := by rw [List.length_append, hys]; rfl
          rw [R6] at R1 R2 R3 R4
          clear o4 f4 R6
          go_wp2_with fail
          go_roundw
          case rel => exact ⟨j + 1, _, _, hlt, by go_num, R5, R3, R4, R1.out, R2.out⟩
          case measure => simp [intOf]; omega
    · obtain rfl : j = l.length := by omega
      obtain ⟨au, cu, rfl⟩ := readsR_shape (gr_reads hG).rows
      have x2 := Q2.out
      have x1 := Q1.out
      have p0 : wr.cell? ⟨w.heap.size + 1 + 1, 0, none⟩ = some (.int .i64 n) := by rw [cell_of_row _ _ _ _ _ _ x2]; rfl
      have p1 : wr.cell? ⟨w.heap.size + 1 + 1, 1, none⟩ = some (.slice au ys.length cu) := by rw [cell_of_row _ _ _ _ _ _ x2]; rfl
      have r0 : wr.cell? ⟨w.heap.size + 1, 0, none⟩ = some (.int .i64 0) := by rw [cell_of_row _ _ _ _ _ _ x1]; rfl
      have r1 : wr.cell? ⟨w.heap.size + 1, 1, none⟩ = some (.slice none 0 0) := by rw [cell_of_row _ _ _ _ _ _ x1]; rfl
      have f1 : ∀ o, wr.frozen? ⟨w.heap.size + 1, o, none⟩ = false := fun o => by simp [World.frozen?, x1]
      clear x2 x1
      have hw := hB.size
      go_wp2_with fail
      have g1 := gr_cell (gr_cell hG ⟨w.heap.size + 1, 0, none⟩ (.int .i64 n) (by show w.heap.size + 1 < _; omega)) ⟨w.heap.size + 1, 1, none⟩ (.slice au ys.length cu) (by show w.heap.size + 1 < _; omega)
      have b1 := (hB.setCell (p := ⟨w.heap.size + 1, 0, none⟩) (by show w.heap.size ≤ w.heap.size + 1; omega) (.int .i64 n)).setCell (p := ⟨w.heap.size + 1, 1, none⟩) (by show w.heap.size ≤ w.heap.size + 1; omega) (.slice au ys.length cu)
      refine bodyPost_ret (results_cell_row rfl _ _ (w.heap.size + 1) 28 _ (0, 0) _ rfl (by rw [heap_setCell_same _ (w.heap.size + 1) 1 _ _ _ (heap_setCell_same _ (w.heap.size + 1) 0 _ _ _ Q1.out)]) Tryz.underlying28 rfl (by kernel_rfl)) rfl ?_
      exact ⟨⟨_, ys, rfl, by rw [HY.out, List.take_length], gr_base g1 (by omega)⟩, b1⟩
end Go.Proofs.YtooomgffcamijaaGreat
