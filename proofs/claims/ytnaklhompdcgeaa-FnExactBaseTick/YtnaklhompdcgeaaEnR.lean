/- The model's copy of an entry. -/
import Derived.Test.YtnaklhompdcgeaaEnQ
import Derived.Test.YtnaklhompdcgeaaAp
namespace Go.Proofs.Ytnaklhompdcgeaa
open Go.RowKit
set_option linter.unusedVariables false

set_option maxHeartbeats 8000000 in
set_option maxRecDepth 100000 in
theorem l4Entry_any (e : Ent) (vl vs vf : Value) (w : World) (hr : EnReads w vl vs vf e) (hs : EnSmall e) :
    Calls Try.prog 26 #[enV e vl vs vf] w fun x w' => (∃ ul us uf, x = .returned (enV e ul us uf) ∧ EnOwn w' w.heap.size w'.heap.size ul us uf e) ∧ Below w.heap.size w w' := by
  obtain ⟨i0, hi, hz0s, hz1s, hz2s⟩ := info_parts scInfo
  obtain ⟨j0, ji, jz0s, jz1s, jz2s⟩ := info_parts prInfo
  obtain ⟨al, cl, as_, cs, af, cf, rfl, rfl, rfl⟩ := enReads_shape hr
  have hls := hs.scores
  have hlf := hs.fields
  have hA : ∀ A B, Below w.heap.size w ((w.alloc A).alloc B) := fun A B => ((Below.refl _ w).alloc (Nat.le_refl _) A).alloc (by simp) B
  go_enter Try.func26, Try.ntmps26
  go_wp2_with fail
  obtain ⟨w0, hW⟩ : ∃ W, (w.alloc (.cells #[.string e.key, .int .i64 e.til, .int .i64 e.kind, .string e.text, .slice al e.list.length cl, .slice as_ e.scores.length cs, .slice af e.fields.length cf] 43)).alloc (.cells #[.string ⟨#[]⟩, .int .i64 0, .int .i64 0, .string ⟨#[]⟩, .slice none 0 0, .slice none 0 0, .slice none 0 0] 43) = W := ⟨_, rfl⟩
  have hB0 : Below w.heap.size w w0 := by rw [← hW]; exact hA _ _
  have hz0 : w0.heap.size = w.heap.size + 2 := by rw [← hW]; simp
  obtain ⟨q0, q1⟩ : w0.heap[w.heap.size]? = some _ ∧ w0.heap[w.heap.size + 1]? = some _ := by rw [← hW]; exact two_rows _ _ _
  rw [hW]
  have Q0 : Hid _ := q0
  have Q1 : Hid _ := q1
  clear hW hA q0 q1
  refine (copy_any _ e.list _ (reads_kept hr.l hB0) hs.list).mono ?_
  rintro x w1 ⟨ul, rfl, ol, hb1⟩
  have hB1 := hB0.trans (hb1.mono hB0.size)
  have ol1 : Own w1 (w.heap.size + 2) w1.heap.size ul e.list := by rw [← hz0]; exact own_of ol
  have hz1 := hb1.size
  rw [hz0] at hz1
  have q0 := (hb1.block w.heap.size (by omega)).trans Q0.out
  have q1 := (hb1.block (w.heap.size + 1) (by omega)).trans Q1.out
  obtain ⟨bl, dl, rfl⟩ := reads_shape (own_reads ol1)
  have R0 : Hid _ := q0
  have R1 : Hid _ := q1
  clear Q0 Q1 ol hb1 hB0 hz0
  have d4x : w1.cell? ⟨w.heap.size, 4, none⟩ = some _ := (box7_row q0).c4
  have f4x : ∀ o, w1.frozen? ⟨w.heap.size, o, none⟩ = false := fun o => by simp [World.frozen?, q0]
  clear q0 q1
  obtain ⟨w1s, hW⟩ : ∃ W, w1.setCell ⟨w.heap.size, 4, none⟩ (.slice bl e.list.length dl) = W := ⟨_, rfl⟩
  have hb1 : Below w.heap.size w1 w1s := by rw [← hW]; exact (Below.refl w.heap.size w1).setCell (p := ⟨w.heap.size, 4, none⟩) (Nat.le_refl _) _
  have hz1s : w1s.heap.size = w1.heap.size := by rw [← hW]; exact setCell_size _ _ _
  have q0 : w1s.heap[w.heap.size]? = some (.cells #[.string e.key, .int .i64 e.til, .int .i64 e.kind, .string e.text, .slice bl e.list.length dl, .slice as_ e.scores.length cs, .slice af e.fields.length cf] 43 (0, 0)) := by rw [← hW, heap_setCell_same _ w.heap.size 4 _ _ _ R0.out]; rfl
  have q1 := ((by rw [← hW]; exact Below.heap_setCell _ _ _ _ (by show w.heap.size + 1 ≠ w.heap.size; omega) : w1s.heap[w.heap.size + 1]? = w1.heap[w.heap.size + 1]?)).trans R1.out
  have ol1s := (by rw [← hW]; exact own_cell ol1 _ _ (by show w.heap.size < _; omega) : Own w1s _ _ _ e.list)
  have hB1s := hB1.trans hb1
  have c5x : w1s.cell? ⟨w.heap.size, 5, none⟩ = some _ := (box7_row q0).c5
  have S0 : Hid _ := q0
  have S1 : Hid _ := q1
  have hzz : w.heap.size ≤ w1s.heap.size := by rw [hz1s]; omega
  have HZ : Hid _ := hz1s
  have hE : Below w1s.heap.size w1s (w1s.alloc (.cells #[] 65)) := (Below.refl _ _).alloc (Nat.le_refl _) _
  have own0 : (w1s.alloc (.cells #[] 65)).ownsRow w1s.heap.size 65 2 (.slice (some ⟨w1s.heap.size, 0, none⟩) 0 0) 0 [] := World.ownsRow_lit w1s #[] 0 (Nat.le_refl _) (by simp) rfl
  have hrd := readsR_kept (readsR_kept hr.s hB1s) hE
  have c5y := (hE.cell (p := ⟨w.heap.size, 5, none⟩) (by show w.heap.size < _; rw [hz1s]; omega)).trans c5x
  clear hb1 q0 q1 R0 R1 hz1s hB1 ol1
  go_wp2_with (at_builtin; refine append_R (c := scC) rfl (.tmp 7) (.tmp 9) 40 rfl w1s.heap.size 65 i0 _ 2 24 Try.underlying40 hi hz0s hz1s hz2s rfl (by decide) _ _ _ rfl own0 _ rfl e.scores hrd scC_len scC_one (by unfold maxLen; omega) (by omega) (by simp) ?_)
  intro us w2 hown hgrow
  have hb2 : Below w1s.heap.size w1s w2 := hE.grown hgrow (by simp) (fun k hk => (own0.lt k hk).1)
  have os : ScOwns w2 w1s.heap.size us e.scores := by unfold ScOwns OwnsR; simpa using hown
  clear hown hgrow own0 hE hrd hW c5x c5y d4x f4x
  have hB2 := hB1s.trans (hb2.mono hB1s.size)
  have os2 : ScOwn w2 w1.heap.size w2.heap.size us e.scores := by rw [← HZ.out]; exact ownR_of os
  have ol2 := own_kept ol1s hb2
  have hz2 := hb2.size
  rw [HZ.out] at hz2
  have q0 := (hb2.block w.heap.size (by rw [HZ.out]; omega)).trans S0.out
  have q1 := (hb2.block (w.heap.size + 1) (by rw [HZ.out]; omega)).trans S1.out
  obtain ⟨b2, d2, rfl⟩ := readsR_shape (ownR_reads scC_len os2)
  have R0 : Hid _ := q0
  have R1 : Hid _ := q1
  clear hb2 hB1s S0 S1 hzz HZ os ol1s
  have d5x : w2.cell? ⟨w.heap.size, 5, none⟩ = some _ := (box7_row q0).c5
  have f5x : ∀ o, w2.frozen? ⟨w.heap.size, o, none⟩ = false := fun o => by simp [World.frozen?, q0]
  clear q0 q1
  obtain ⟨w2s, hW⟩ : ∃ W, w2.setCell ⟨w.heap.size, 5, none⟩ (.slice b2 e.scores.length d2) = W := ⟨_, rfl⟩
  have hb2 : Below w.heap.size w2 w2s := by rw [← hW]; exact (Below.refl w.heap.size w2).setCell (p := ⟨w.heap.size, 5, none⟩) (Nat.le_refl _) _
  have hz2s : w2s.heap.size = w2.heap.size := by rw [← hW]; exact setCell_size _ _ _
  have q0 : w2s.heap[w.heap.size]? = some (.cells #[.string e.key, .int .i64 e.til, .int .i64 e.kind, .string e.text, .slice bl e.list.length dl, .slice b2 e.scores.length d2, .slice af e.fields.length cf] 43 (0, 0)) := by rw [← hW, heap_setCell_same _ w.heap.size 5 _ _ _ R0.out]; rfl
  have q1 := ((by rw [← hW]; exact Below.heap_setCell _ _ _ _ (by show w.heap.size + 1 ≠ w.heap.size; omega) : w2s.heap[w.heap.size + 1]? = w2.heap[w.heap.size + 1]?)).trans R1.out
  have ol2s := (by rw [← hW]; exact own_cell ol2 _ _ (by show w.heap.size < _; omega) : Own w2s _ _ _ e.list)
  have os2s := (by rw [← hW]; exact ownR_cell os2 _ _ (by show w.heap.size < _; omega) : ScOwn w2s _ _ _ e.scores)
  have hB2s := hB2.trans hb2
  have c6x : w2s.cell? ⟨w.heap.size, 6, none⟩ = some _ := (box7_row q0).c6
  have S0 : Hid _ := q0
  have S1 : Hid _ := q1
  have hzz : w.heap.size ≤ w2s.heap.size := by rw [hz2s]; omega
  have HZ : Hid _ := hz2s
  have hE : Below w2s.heap.size w2s (w2s.alloc (.cells #[] 68)) := (Below.refl _ _).alloc (Nat.le_refl _) _
  have own0 : (w2s.alloc (.cells #[] 68)).ownsRow w2s.heap.size 68 2 (.slice (some ⟨w2s.heap.size, 0, none⟩) 0 0) 0 [] := World.ownsRow_lit w2s #[] 0 (Nat.le_refl _) (by simp) rfl
  have hrd := readsR_kept (readsR_kept hr.f hB2s) hE
  have c6y := (hE.cell (p := ⟨w.heap.size, 6, none⟩) (by show w.heap.size < _; rw [hz2s]; omega)).trans c6x
  clear hb2 q0 q1 R0 R1 hz2s hB2 ol2 os2
  go_wp2_with (at_builtin; refine append_R (c := prC) rfl (.tmp 12) (.tmp 14) 41 rfl w2s.heap.size 68 j0 _ 2 32 Try.underlying41 ji jz0s jz1s jz2s rfl (by decide) _ _ _ rfl own0 _ rfl e.fields hrd prC_len prC_one (by unfold maxLen; omega) (by omega) (by simp) ?_)
  intro uf w3 hown hgrow
  have hb3 : Below w2s.heap.size w2s w3 := hE.grown hgrow (by simp) (fun k hk => (own0.lt k hk).1)
  have of : PrOwns w3 w2s.heap.size uf e.fields := by unfold PrOwns OwnsR; simpa using hown
  clear hown hgrow own0 hE hrd hW c6x c6y d5x f5x
  have hB3 := hB2s.trans (hb3.mono hB2s.size)
  have of3 : PrOwn w3 w2.heap.size w3.heap.size uf e.fields := by rw [← HZ.out]; exact ownR_of of
  have ol3 := own_kept ol2s hb3
  have os3 := ownR_kept os2s hb3
  have hz3 := hb3.size
  rw [HZ.out] at hz3
  have q0 := (hb3.block w.heap.size (by rw [HZ.out]; omega)).trans S0.out
  have q1 := (hb3.block (w.heap.size + 1) (by rw [HZ.out]; omega)).trans S1.out
  obtain ⟨b3, d3, rfl⟩ := readsR_shape (ownR_reads prC_len of3)
  have R0 : Hid _ := q0
  have R1 : Hid _ := q1
  clear hb3 hB2s S0 S1 hzz HZ of ol2s os2s
  have d6x : w3.cell? ⟨w.heap.size, 6, none⟩ = some _ := (box7_row q0).c6
  have f6x : ∀ o, w3.frozen? ⟨w.heap.size, o, none⟩ = false := fun o => by simp [World.frozen?, q0]
  have c0x : w3.cell? ⟨w.heap.size, 0, none⟩ = some _ := (box7_row q0).c0
  have c1x : w3.cell? ⟨w.heap.size, 1, none⟩ = some _ := (box7_row q0).c1
  have c2x : w3.cell? ⟨w.heap.size, 2, none⟩ = some _ := (box7_row q0).c2
  have c3x : w3.cell? ⟨w.heap.size, 3, none⟩ = some _ := (box7_row q0).c3
  have c4x : w3.cell? ⟨w.heap.size, 4, none⟩ = some _ := (box7_row q0).c4
  have c5x : w3.cell? ⟨w.heap.size, 5, none⟩ = some _ := (box7_row q0).c5
  have e0x : w3.cell? ⟨w.heap.size + 1, 0, none⟩ = some _ := (box7_row q1).c0
  have e1x : w3.cell? ⟨w.heap.size + 1, 1, none⟩ = some _ := (box7_row q1).c1
  have e2x : w3.cell? ⟨w.heap.size + 1, 2, none⟩ = some _ := (box7_row q1).c2
  have e3x : w3.cell? ⟨w.heap.size + 1, 3, none⟩ = some _ := (box7_row q1).c3
  have e4x : w3.cell? ⟨w.heap.size + 1, 4, none⟩ = some _ := (box7_row q1).c4
  have e5x : w3.cell? ⟨w.heap.size + 1, 5, none⟩ = some _ := (box7_row q1).c5
  have e6x : w3.cell? ⟨w.heap.size + 1, 6, none⟩ = some _ := (box7_row q1).c6
  have g0x : ∀ o, w3.frozen? ⟨w.heap.size + 1, o, none⟩ = false := fun o => by simp [World.frozen?, q1]
  clear q0 q1 R0
  go_wp2_with fail
  have hk : ∀ (P : World → Prop), (∀ W a u, a.block < w.heap.size + 2 → w.heap.size ≤ a.block → P W → P (W.setCell a u)) → P w3 → P ((((((((w3.setCell ⟨w.heap.size, 6, none⟩ (.slice b3 e.fields.length d3)).setCell ⟨w.heap.size + 1, 0, none⟩ (.string e.key)).setCell ⟨w.heap.size + 1, 1, none⟩ (.int .i64 e.til)).setCell ⟨w.heap.size + 1, 2, none⟩ (.int .i64 e.kind)).setCell ⟨w.heap.size + 1, 3, none⟩ (.string e.text)).setCell ⟨w.heap.size + 1, 4, none⟩ (.slice bl e.list.length dl)).setCell ⟨w.heap.size + 1, 5, none⟩ (.slice b2 e.scores.length d2)).setCell ⟨w.heap.size + 1, 6, none⟩ (.slice b3 e.fields.length d3)) := by
    intro P hs h
    exact hs _ _ _ (by show w.heap.size + 1 < _; omega) (by show _ ≤ w.heap.size + 1; omega) (hs _ _ _ (by show w.heap.size + 1 < _; omega) (by show _ ≤ w.heap.size + 1; omega) (hs _ _ _ (by show w.heap.size + 1 < _; omega) (by show _ ≤ w.heap.size + 1; omega) (hs _ _ _ (by show w.heap.size + 1 < _; omega) (by show _ ≤ w.heap.size + 1; omega) (hs _ _ _ (by show w.heap.size + 1 < _; omega) (by show _ ≤ w.heap.size + 1; omega) (hs _ _ _ (by show w.heap.size + 1 < _; omega) (by show _ ≤ w.heap.size + 1; omega) (hs _ _ _ (by show w.heap.size + 1 < _; omega) (by show _ ≤ w.heap.size + 1; omega) (hs _ _ _ (by show w.heap.size < _; omega) (by show _ ≤ w.heap.size; omega) h)))))))
  refine bodyPost_ret (results_cell_row rfl _ _ (w.heap.size + 1) 43 _ (0, 0) _ rfl (box7_set ((Below.heap_setCell w3 _ _ _ (by show w.heap.size + 1 ≠ w.heap.size; omega)).trans R1.out) _ _ _ _ _ _ _) Try.underlying43 rfl (by kernel_rfl)) rfl ?_
  refine ⟨⟨_, _, _, rfl, w1.heap.size, w2.heap.size, by omega, by omega, ?_, ?_, ?_, ?_⟩, ?_⟩
  · exact hk (fun W => w2.heap.size ≤ W.heap.size) (fun W a u _ _ h => by rw [setCell_size]; exact h) hz3
  · have := hk (fun W => Own W (w.heap.size + 2) w1.heap.size _ e.list) (fun W a u h1 _ h => own_cell h a u h1) ol3
    exact ⟨owns_base this.1 (by omega), this.2⟩
  · exact hk (fun W => ScOwn W w1.heap.size w2.heap.size _ e.scores) (fun W a u h1 _ h => ownR_cell h a u (by omega)) os3
  · have := hk (fun W => PrOwn W w2.heap.size w3.heap.size _ e.fields) (fun W a u h1 _ h => ownR_cell h a u (by omega)) of3
    exact ⟨this.1, fun k hk' => Nat.lt_of_lt_of_le (this.2 k hk') (hk (fun W => w3.heap.size ≤ W.heap.size) (fun W a u _ _ h => by rw [setCell_size]; exact h) (Nat.le_refl _))⟩
  · exact hk (fun W => Below w.heap.size w W) (fun W a u _ h2 h => h.setCell h2 u) hB3
end Go.Proofs.Ytnaklhompdcgeaa
